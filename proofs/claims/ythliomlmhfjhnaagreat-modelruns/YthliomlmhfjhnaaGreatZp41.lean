/- Texts put together. -/
import Derived.Test.YthliomlmhfjhnaaGreatZp40
import Derived.Laws.MakeOwn
namespace Go.Proofs.YthliomlmhfjhnaaGreat
set_option maxRecDepth 20000
set_option maxHeartbeats 16000000
open Go.ChangeShapes Go.WideShapes Go.ChangeAt Go.RowKit
set_option linter.unusedVariables false
set_option linter.unusedSimpArgs false
section
open Go.ChangeShapes Go.WideShapes Go.ChangeAt Go.RowKit Go.Sort
theorem QmD (R S d h l v u x t n:Int)(La:Option Addr)(ml Lc:Nat)(w:World)
  (k32:∀ w,Calls Tryz.prog 90 #[I4 R,I4 S,.agg (c8 d h l v u x t n)] w fun e w'=>e=.returned (.bool false)∧Bw w w') :
  Calls Tryz.prog 55 #[.agg #[I4 R,I4 S,.slice La ml Lc],.agg (c8 d h l v u x t n)] w fun e w'=>e=.returned (I4 20)∧Bw w w':=by
 have hb:=bNw (bNw (bS w) (.cells #[I4 R,I4 S,.slice La ml Lc] 30)) (.cells (c8 d h l v u x t n) 23)
 have qa:Blk 30 ((w.alloc (.cells #[I4 R,I4 S,.slice La ml Lc] 30)).alloc (.cells (c8 d h l v u x t n) 23)) w.heap.size #[I4 R,I4 S,.slice La ml Lc]:=(Blk.new 30 w _).kept (bNw bR _)
 have qc:Blk 23 ((w.alloc (.cells #[I4 R,I4 S,.slice La ml Lc] 30)).alloc (.cells (c8 d h l v u x t n) 23)) (w.heap.size+1) (c8 d h l v u x t n):=Blk.new_at 23 (w.alloc _) _ _ (by simp)
 obtain⟨a0,a1,a2⟩:=qa.c3
 obtain⟨c0,c1,c2,c3,c4,c5,c6,c7⟩:=qc.cfg
 go_enter Tryz.func55,Tryz.ntmps55
 go_wp2_with (first|(go_at_call 90;refine (k32 _).mono ?_;rintro e W1 ⟨rfl,h1⟩;replace qa:=qa.kept h1;replace qc:=qc.kept h1;replace hb:=bTn hb h1;clear h1 a0 a1 a2 c0 c1 c2 c3 c4 c5 c6 c7;obtain⟨a0,a1,a2⟩:=qa.c3;obtain⟨c0,c1,c2,c3,c4,c5,c6,c7⟩:=qc.cfg))
 go_ret
 exact⟨rfl,hb⟩
theorem Qlt (R S d h l v u x t n:Int)(La:Option Addr)(ml Lc:Nat)(w:World)(g:((ml:Int)==l)=false)
  (k32:∀ w,Calls Tryz.prog 90 #[I4 R,I4 S,.agg (c8 d h l v u x t n)] w fun e w'=>e=.returned (.bool true)∧Bw w w') :
  Calls Tryz.prog 55 #[.agg #[I4 R,I4 S,.slice La ml Lc],.agg (c8 d h l v u x t n)] w fun e w'=>e=.returned (I4 21)∧Bw w w':=by
 have hb:=bNw (bNw (bS w) (.cells #[I4 R,I4 S,.slice La ml Lc] 30)) (.cells (c8 d h l v u x t n) 23)
 have qa:Blk 30 ((w.alloc (.cells #[I4 R,I4 S,.slice La ml Lc] 30)).alloc (.cells (c8 d h l v u x t n) 23)) w.heap.size #[I4 R,I4 S,.slice La ml Lc]:=(Blk.new 30 w _).kept (bNw bR _)
 have qc:Blk 23 ((w.alloc (.cells #[I4 R,I4 S,.slice La ml Lc] 30)).alloc (.cells (c8 d h l v u x t n) 23)) (w.heap.size+1) (c8 d h l v u x t n):=Blk.new_at 23 (w.alloc _) _ _ (by simp)
 obtain⟨a0,a1,a2⟩:=qa.c3
 obtain⟨c0,c1,c2,c3,c4,c5,c6,c7⟩:=qc.cfg
 go_enter Tryz.func55,Tryz.ntmps55
 go_wp2_with (first|(go_at_call 90;refine (k32 _).mono ?_;rintro e W1 ⟨rfl,h1⟩;replace qa:=qa.kept h1;replace qc:=qc.kept h1;replace hb:=bTn hb h1;clear h1 a0 a1 a2 c0 c1 c2 c3 c4 c5 c6 c7;obtain⟨a0,a1,a2⟩:=qa.c3;obtain⟨c0,c1,c2,c3,c4,c5,c6,c7⟩:=qc.cfg))
 go_ret
 exact⟨rfl,hb⟩
theorem QjL (R S d h v u x t n:Int)(x0:Addr)(ml Lc:Nat)(L:SL)(Y:Nat→Nat→SL)(m:AdV)(w:World)(hM:AdAt w L Y m)(eA:L.a=some x0)(hml:m.ln=ml)(hl:ml≤1000000)(N V:Int)
  (no:∀ i,i<ml→∀ j,j<4→((Y i j).n:Int)≠N→V=21) (yes:(∀ i,i<ml→∀ j,j<4→((Y i j).n:Int)=N)→V=0)
  (k32:∀ w,Calls Tryz.prog 90 #[I4 R,I4 S,.agg #[I4 d,I4 h,I4 (ml:Int),I4 v,I4 u,I4 x,I4 t,I4 n]] w fun e w'=>e=.returned (.bool true)∧Bw w w')
  (k34:∀ w,Calls Tryz.prog 92 #[I4 R,.agg #[I4 d,I4 h,I4 (ml:Int),I4 v,I4 u,I4 x,I4 t,I4 n]] w fun e w'=>e=.returned (I4 N)∧Bw w w') :
  Calls Tryz.prog 55 #[.agg #[I4 R,I4 S,.slice (some x0) ml Lc],.agg #[I4 d,I4 h,I4 (ml:Int),I4 v,I4 u,I4 x,I4 t,I4 n]] w fun e w'=>e=.returned (I4 V)∧Bw w w':=by
 have hb:=bNw (bNw (bS w) (.cells #[I4 R,I4 S,.slice (some x0) ml Lc] 30)) (.cells #[I4 d,I4 h,I4 (ml:Int),I4 v,I4 u,I4 x,I4 t,I4 n] 23)
 have qa:Blk 30 ((w.alloc (.cells #[I4 R,I4 S,.slice (some x0) ml Lc] 30)).alloc (.cells #[I4 d,I4 h,I4 (ml:Int),I4 v,I4 u,I4 x,I4 t,I4 n] 23)) w.heap.size #[I4 R,I4 S,.slice (some x0) ml Lc]:=(Blk.new 30 w _).kept (bNw bR _)
 have qc:Blk 23 ((w.alloc (.cells #[I4 R,I4 S,.slice (some x0) ml Lc] 30)).alloc (.cells #[I4 d,I4 h,I4 (ml:Int),I4 v,I4 u,I4 x,I4 t,I4 n] 23)) (w.heap.size+1) #[I4 d,I4 h,I4 (ml:Int),I4 v,I4 u,I4 x,I4 t,I4 n]:=Blk.new_at 23 (w.alloc _) _ _ (by simp)
 obtain⟨a0,a1,a2⟩:=qa.c3
 obtain⟨c0,c1,c2,c3,c4,c5,c6,c7⟩:=qc.cfg
 have HM:=hdn hM
 have HN:=hdn no
 have HY:=hdn yes
 have HL:=hdn hml
 have HA:=hdn eA
 clear hM no yes hml eA
 go_enter Tryz.func55,Tryz.ntmps55
 go_wp2_with (first|(go_at_call 90;refine (k32 _).mono ?_;rintro e W1 ⟨rfl,h1⟩;replace qa:=qa.kept h1;replace qc:=qc.kept h1;replace hb:=bTn hb h1;clear h1 a0 a1 a2 c0 c1 c2 c3 c4 c5 c6 c7;obtain⟨a0,a1,a2⟩:=qa.c3;obtain⟨c0,c1,c2,c3,c4,c5,c6,c7⟩:=qc.cfg))
 have HB:=hdn (And.intro hb (And.intro qa qc))
 clear hb qa qc a0 a1 a2 c0 c1 c2 c3 c4 c5 c6 c7 k32
 go_loopw [24] (fun i wr=>∃ k:Nat,k≤ml∧i=I4 k∧Bw w wr∧Blk 30 wr w.heap.size #[I4 R,I4 S,.slice (some x0) ml Lc]∧Blk 23 wr (w.heap.size+1) #[I4 d,I4 h,I4 (ml:Int),I4 v,I4 u,I4 x,I4 t,I4 n]∧Hid (∀ i,i<k→∀ j,j<4→((Y i j).n:Int)=N)) (fun i _=>ml-(intOf i).toNat)
 case atStart=>exact⟨0,Nat.zero_le _,rfl,HB.out.1,HB.out.2.1,HB.out.2.2,fun i hi=>absurd hi (Nat.not_lt_zero _)⟩
 case round =>
  clear HB
  obtain⟨k,hk,rfl,hb,qa,qc,good⟩:=hrel
  by_cases hlt:k<ml
  ·have hlt':(k:Int)<(ml:Int):=by omega
   obtain⟨a0,a1,a2⟩:=qa.c3
   have hc:=HM.out.cell x0 HA.out k (by rw[HL.out];exact hlt)
   obtain⟨P,eP⟩:∃ P,x0.add (k*4)=P:=⟨_,rfl⟩
   rw[eP] at hc
   have HC:=hdn hc
   clear hc
   have k33:=QjA P
   go_wp2_with (first|(go_at_call 91;refine (k33 _).mono ?_;rintro e W2 ⟨rfl,h2⟩;replace qa:=qa.kept h2;replace qc:=qc.kept h2;replace hb:=bTn hb h2;clear h2 a0 a1 a2))
   obtain⟨i0,i1,i2,i3⟩:=Qlg (.pointer (some P)) (.pointer (some ⟨P.block,P.off+1,none⟩)) (.pointer (some ⟨P.block,P.off+2,none⟩)) (.pointer (some ⟨P.block,P.off+3,none⟩))
   have ix:Hid (∀ j,j<4→∀ w:World,(Instr.index 125 (.agg #[.pointer (some P),.pointer (some ⟨P.block,P.off+1,none⟩),.pointer (some ⟨P.block,P.off+2,none⟩),.pointer (some ⟨P.block,P.off+3,none⟩)]) (I4 (j:Nat))).run Tryz.prog w=.ok (.pointer (some (P.add j))) w):=fun j hj=>by
    rcases l4 (show j<4 by omega) with rfl|rfl|rfl|rfl
    ·exact i0
    ·exact i1
    ·exact i2
    ·exact i3
   clear i0 i1 i2 i3 k33 eP
   have HB:=hdn (And.intro hb (And.intro qa qc))
   clear hb qa qc
   go_loopw [32] (fun i wr=>∃ j:Nat,j≤4∧i=I4 j∧Bw w wr∧Blk 30 wr w.heap.size #[I4 R,I4 S,.slice (some x0) ml Lc]∧Blk 23 wr (w.heap.size+1) #[I4 d,I4 h,I4 (ml:Int),I4 v,I4 u,I4 x,I4 t,I4 n]∧Hid (∀ i,i<j→((Y k i).n:Int)=N)) (fun i _=>4-(intOf i).toNat)
   case atStart=>exact⟨0,Nat.zero_le _,rfl,HB.out.1,HB.out.2.1,HB.out.2.2,fun i hi=>absurd hi (Nat.not_lt_zero _)⟩
   case round =>
    clear HB
    obtain⟨j,hj,rfl,hb,qa,qc,goodj⟩:=hrel
    by_cases hjt:j<4
    ·have hjt':(j:Int)<4:=by omega
     have ij:=ix.out j hjt
     have hc:=HC.out j hjt
     have hc':=((hb.cell (World.block_lt_of_cell? w _ hc)).trans hc)
     obtain⟨Q,eQ⟩:∃ Q,P.add j=Q:=⟨_,rfl⟩
     rw[eQ] at ij hc'
     obtain⟨SA,SN,SC,eS⟩:∃ SA SN SC,Y k j=⟨SA,SN,SC⟩:=⟨(Y k j).a,(Y k j).n,(Y k j).c,rfl⟩
     rw[eS] at hc'
     have cq:wr.cell? Q=some (.slice SA SN SC):=hc'
     have eN:(Y k j).n=SN:=by rw[eS]
     have EN:=hdn eN
     clear hc hc' eQ eS eN
     have kn':∀ d' os,Calls Tryz.prog 92 #[I4 R,.agg #[I4 d,I4 h,I4 (ml:Int),I4 v,I4 u,I4 x,I4 t,I4 n]] (grow (redrawn wr d') os) fun e w''=>e=.returned (I4 N)∧∃ p:Regrown,w''=grow (redrawn wr p.d) p.os:=fun d' os =>
      Calls.regrown_of ((k34 _).mono fun e w' he=>⟨he.1,he.2⟩)
     obtain⟨a0,a1,a2⟩:=qa.c3
     obtain⟨c0,c1,c2,c3,c4,c5,c6,c7⟩:=qc.cfg
     replace cq:=cell_regrown cq
     replace a0:=cell_regrown a0
     replace c0:=cell_regrown c0
     replace c1:=cell_regrown c1
     replace c2:=cell_regrown c2
     replace c3:=cell_regrown c3
     replace c4:=cell_regrown c4
     replace c5:=cell_regrown c5
     replace c6:=cell_regrown c6
     replace c7:=cell_regrown c7
     clear a1 a2
     by_cases g1:(SN:Int)=N
     ·have g1':((SN:Int) != N)=false:=by simp[g1]
      have good':Hid (∀ i,i<j+1→((Y k i).n:Int)=N):=fun i hi=>by
       by_cases e:i=j
       ·subst e;rw[EN.out];exact g1
       ·exact goodj.out i (by omega)
      clear g1 goodj
      go_wp2
      refine wp_region_quiet_below (by kernel_rfl) (by kernel_rfl) ?_
      repeat (go_big_quiet_step (first|(go_at_call 92;exact kn' _ _)))
      refine wpQuiet_nil ?_
      intro _ hw'
      obtain⟨⟨dq,osq⟩,hw''⟩:=hw'
      subst hw''
      have hbq:=below_regrown wr dq osq
      replace qa:=qa.kept hbq
      replace qc:=qc.kept hbq
      replace hb:=bTn hb hbq
      clear hbq kn' cq a0 c0 c1 c2 c3 c4 c5 c6 c7 ij
      go_wp2
      go_roundw
      case rel=>exact⟨j+1,by omega,by go_num,hb,qa,qc,good'⟩
      case measure=>simp[intOf];omega
     ·have g1':((SN:Int) != N)=true:=by simp[g1]
      have e:=HN.out k hlt j hjt (by rw[EN.out];exact g1)
      clear g1 goodj
      subst e
      go_wp2
      refine wp_region_quiet_below (by kernel_rfl) (by kernel_rfl) ?_
      repeat (go_big_quiet_step (first|(go_at_call 92;exact kn' _ _)))
      refine wpQuiet_nil ?_
      intro _ hw'
      obtain⟨⟨dq,osq⟩,hw''⟩:=hw'
      subst hw''
      have hbq:=below_regrown wr dq osq
      replace hb:=bTn hb hbq
      clear hbq kn' cq a0 c0 c1 c2 c3 c4 c5 c6 c7 ij
      go_wp2
      go_ret
      exact⟨rfl,hb⟩
    ·have e:j=4:=by omega
     subst e
     have good':Hid (∀ i,i<k+1→∀ j,j<4→((Y i j).n:Int)=N):=fun i hi j hj=>by
      by_cases e:i=k
      ·subst e;exact goodj.out j hj
      ·exact good.out i (by omega) j hj
     clear goodj
     go_wp2
     go_roundw
     case rel=>exact⟨k+1,by omega,by go_num,hb,qa,qc,good'⟩
     case measure=>simp[intOf];omega
  ·have e:k=ml:=by omega
   subst e
   have e:=HY.out good.out
   subst e
   go_wp2
   go_ret
   exact⟨rfl,hb⟩
theorem Qgv {R S d h l v u x t n:Int}(ok:okA R S d h l v u x t n=true):Qop R S d l:=by
 unfold okA okB QbY at ok
 simp only[Bool.and_eq_true,decide_eq_true_eq] at ok
 constructor<;>omega
theorem QdT (R S d h l v u x t n:Int)(L:SL)(Y:Nat→Nat→SL)(m:AdV)(w:World)(hM:AdAt w L Y m) :
  Calls Tryz.prog 55 #[.agg #[I4 R,I4 S,.slice L.a L.n L.c],.agg (c8 d h l v u x t n)] w fun e w'=>e=.returned (I4 (QbB R S d h l v u x t n m))∧Bw w w':=by
 have k32:=Qg5 R S d h l v u x t n
 unfold QbB
 cases ok:okA R S d h l v u x t n with
 | false =>
  rw[if_neg (by simp)]
  simp only[ok] at k32
  exact QmD R S d h l v u x t n L.a L.n L.c w k32
 | true =>
  rw[if_pos rfl]
  simp only[ok] at k32
  have r:=Qgv ok
  have r0:=r.r0
  have r1:=r.r1
  have d0:=r.d0
  have d1:=r.d1
  have l0:=r.l0
  have l1:=r.l1
  by_cases e:(m.ln:Int)=l
  ·have hn:L.n=m.ln:=hM.len
   obtain⟨x0,ex⟩:=hM.some_ (by omega)
   have hp:0≤R*d:=Int.mul_nonneg (by omega) (by omega)
   have hp':R*d≤4*8:=Int.mul_le_mul r1 d1 (by omega) (by omega)
   have k34:=Qf1 R d h l v u x t n (R*d) rfl (by omega) (by omega)
   have hlen:∀ i,i<m.ln→∀ j,j<4→(Y i j).n=(m.f i j).length:=fun i hi j hj=>(hM.lay i hi j hj).reads.len.symm
   have key:=fun V no yes=>QjL R S d h v u x t n x0 L.n L.c L Y m w hM ex hn.symm (by omega) (R*d) V no yes
   rw[show ((L.n:Nat):Int)=l by omega] at key
   rw[hn] at key ⊢
   rw[ex]
   refine key _ (fun i hi j hj hne=>?_) (fun hall=>?_) k32 k34
   ·rw[if_neg]
    rintro⟨_,hq⟩
    exact hne (by rw[hlen i hi j hj];exact QbX.1 hq i hi j hj)
   ·rw[if_pos ⟨e,QbX.2 fun i hi j hj=>by rw[←hlen i hi j hj];exact hall i hi j hj⟩]
  ·rw[if_neg (fun k=>e k.1)]
   exact Qlt R S d h l v u x t n L.a L.n L.c w (by rw[hM.len];simp[e]) k32
end
def c3D (i:Nat):Option Nat:=match i with|0=>some 13|1=>some 14|_=>none
theorem QnA:∀ i,i<4→∀ j,j<4→c3D i=c3D j→c3D i≠none→i=j:=by decide
theorem Qol:∀ i,i<4→∀ d,c3D i=some d→d<22:=by
 intro i hi d h
 have:∀ i,i<4→(c3D i).all (fun d=>decide (d<22))=true:=by decide
 have:=this i hi
 rw[h] at this
 simpa using this
def c3F (M:Md)(E L N O La:SL)(b1 b2 b3 b4:Nat)(c:Int)(j:Nat)(q:Value):Prop:=match j with
 | 0=>q=M.ag E L N O
 | 1=>q=M.ad La
 | _=>True
def c3S (M:Md)(E L N O La:SL)(b1 b2 b3 b4 B:Nat)(w00:World)(l:Nat→Bool)(w:World):Prop:=Below B w00 w∧B≤w.heap.size∧Blk 27 w b1 (M.mc E L N O)∧Blk 30 w b2 (M.rc La)∧Blk 27 w b3 (cond (l 2) (M.mc E L N O) z12)∧Blk 30 w b4 (cond (l 3) (M.rc La) z3)
theorem Qlz {id:Nat}{ops:Array Oper}{Q:Exit→Act→World→Prop}{a0:Act}{w0:World}(M:Md)(E L N O La:SL)(b1 b2 b3 b4:Nat)(c:Int)(B:Nat)(w00:World)(hB1:B≤b3)(hB2:B≤b4)(n13:b1≠b3)
  (hlow:lowB ops=true) (hsz:ops.size=4)
  (oo:OpS ops 0 13 (.load 27 (.tmp 2)) []∧OpS ops 1 14 (.load 30 (.tmp 3)) []∧OpIn ops 2 none (.store 27 (.tmp 4) (.tmp 13)) none [0]∧OpIn ops 3 none (.store 30 (.tmp 5) (.tmp 14)) none [1])
  (u2:a0.tmps.getD 2 undef=Pt b1) (u3:a0.tmps.getD 3 undef=Pt b2) (u4:a0.tmps.getD 4 undef=Pt b3) (u5:a0.tmps.getD 5 undef=Pt b4) (n24:b2≠b4)
  (hS:c3S M E L N O La b1 b2 b3 b4 B w00 (fun _=>false) w0.drew)
  (hs:22≤a0.tmps.size)
  (fin:∀ a w,a.tmps.size=a0.tmps.size→a.defers=a0.defers→(∀ s,(∀ i,i<4→c3D i≠some s)→a.tmps.getD s undef=a0.tmps.getD s undef)→Below B w00 w→Blk 27 w b3 (M.mc E L N O)→Blk 30 w b4 (M.rc La)→Q .normal a w):(Code.region id ops true).wp Tryz.prog Q a0 w0:=by
 obtain⟨o0,o1,o2,o3⟩:=oo
 have r55:∀ args w,(callFunc 55 args).run Tryz.prog w=.ok (.enter 55 args) w:=eNo Tryz.func55 (by kernel_rfl) rfl
 have r54:∀ args w,(callFunc 54 args).run Tryz.prog w=.ok (.enter 54 args) w:=eNo Tryz.func54 (by kernel_rfl) rfl
 refine wRi (by kernel_rfl) hlow (Inv 4 c3D a0 (fun l _ w=>c3S M E L N O La b1 b2 b3 b4 B w00 l w) (fun _ j q _=>c3F M E L N O La b1 b2 b3 b4 c j q)) (Inv.start hS) ?_ ?_
 ·intro l i o a w ho hl hcl hdep hI
  have hi:i<4:=by rw[←hsz];exact (Array.getElem?_eq_some_iff.1 ho).1
  have ev:∀ (s:Nat),a.eval (.tmp s)=a.tmps.getD s undef:=fun _=>rfl
  have evf:∀ f,a.eval (.func f)=.func (.func f) #[] #[]:=fun _=>rfl
  have inj:∀ d,c3D i=some d→∀ j d',j<4→c3D j=some d'→j≠i→d'≠d:=fun d hd j d' hj hd' hne e=>hne (QnA j hj i hi (by rw[hd',hd,e]) (by rw[hd'];simp))
  have kp:∀ s,(∀ i,i<4→c3D i≠some s)→a.tmps.getD s undef=a0.tmps.getD s undef:=hI.kept
  obtain⟨hw,hsz',k1,k2,k3,k4⟩:=hI.world
  have oth:∀ j,j≠i→(l j || j==i)=l j:=fun j hj=>by rw[show (j==i)=false by simp[hj],Bool.or_false]
  have sam:(l i || i==i)=true:=by simp
  have U2:=(kp 2 (by decide)).trans u2
  have U3:=(kp 3 (by decide)).trans u3
  have U4:=(kp 4 (by decide)).trans u4
  have U5:=(kp 5 (by decide)).trans u5
  have go:∀ {d:Nat}{v:Value}{w':World},c3D i=some d→i≠2∧i≠3→Bw w w'→c3F M E L N O La b1 b2 b3 b4 c i v→Inv 4 c3D a0 (fun l _ w=>c3S M E L N O La b1 b2 b3 b4 B w00 l w) (fun _ j q _=>c3F M E L N O La b1 b2 b3 b4 c j q) (fun j=>l j || j==i) (a.put (some d) v) w':=by
   intro d v w' hD hne hb hF
   refine hI.put hi hD (Nat.lt_of_lt_of_le (Qol i hi d hD) hs) (inj d hD) ⟨hw.trans (hb.mono hsz'),Nat.le_trans hsz' hb.size,k1.kept hb,k2.kept hb,?_,?_⟩ hF (fun j u _ _ _ hf=>hf)
   ·dsimp only
    rw[oth 2 (fun e=>hne.1 e.symm)]
    exact k3.kept hb
   ·dsimp only
    rw[oth 3 (fun e=>hne.2 e.symm)]
    exact k4.kept hb
  rcases l4 (show i<4 by omega) with rfl|rfl|rfl|rfl
  ·obtain⟨e2,e3,e4,dp⟩:=o0.at_ ho hdep
   exact wVa (v:=M.ag E L N O) (w':=w) ho e4 (by simp[execOp,e3,ev,U2,Qaj k1]) (by rw[e2];exact go rfl (by decide) bR rfl)
  ·obtain⟨e2,e3,e4,dp⟩:=o1.at_ ho hdep
   exact wVa (v:=M.ad La) (w':=w) ho e4 (by simp[execOp,e3,ev,U3,rL3 k2]) (by rw[e2];exact go rfl (by decide) bR rfl)
  ·obtain⟨e2,e3,e4,dp⟩:=o2.at_ ho hdep
   have V0:tm a 13=_:=hI.vl dp 0 13 rfl rfl
   rw[hl] at k3
   obtain⟨w',r',q',on⟩:=Qcj k3 M.d M.h M.l M.v M.u M.x M.t M.n E L N O
   refine wSk (w':=w') ho e4 (by simp[execOp,e3,ev,U4,V0,r']) ?_
   rw[e2]
   refine hI.none_ rfl ⟨Only.below hw hB1 hsz' on,Nat.le_trans hsz' on.size,k1.only on n13,k2.only on (k2.apart k3 (by decide)),?_,?_⟩ (fun j u _ _ _ hf=>hf)
   ·dsimp only
    rw[sam]
    exact q'
   ·dsimp only
    rw[oth 3 (by decide)]
    exact k4.only on (k4.apart k3 (by decide))
  ·obtain⟨e2,e3,e4,dp⟩:=o3.at_ ho hdep
   have V1:tm a 14=_:=hI.vl dp 1 14 rfl rfl
   rw[hl] at k4
   obtain⟨w',r',q',on⟩:=QdL k4 M.r M.s La
   refine wSk (w':=w') ho e4 (by simp[execOp,e3,ev,U5,V1,r']) ?_
   rw[e2]
   refine hI.none_ rfl ⟨Only.below hw hB2 hsz' on,Nat.le_trans hsz' on.size,k1.only on (k1.apart k4 (by decide)),k2.only on n24,?_,?_⟩ (fun j u _ _ _ hf=>hf)
   ·dsimp only
    rw[oth 2 (by decide)]
    exact k3.only on (k3.apart k4 (by decide))
   ·dsimp only
    rw[sam]
    exact q'
 ·intro l a w hall hI
  have all:∀ j,j<4→l j=true:=fun j hj=>hall j (by rw[hsz];exact hj)
  obtain⟨hw,-,-,-,k3,k4⟩:=hI.world
  rw[all 2 (by decide)] at k3
  rw[all 3 (by decide)] at k4
  exact fin a w hI.size hI.defers hI.kept hw k3 k4
def c4D (i:Nat):Option Nat:=match i with|0=>some 15|1=>some 16|2=>some 17|3=>some 18|4=>some 19|5=>some 20|6=>some 21|_=>none
theorem Qnz:∀ i,i<9→∀ j,j<9→c4D i=c4D j→c4D i≠none→i=j:=by decide
theorem Qok:∀ i,i<9→∀ d,c4D i=some d→d<22:=by
 intro i hi d h
 have:∀ i,i<9→(c4D i).all (fun d=>decide (d<22))=true:=by decide
 have:=this i hi
 rw[h] at this
 simpa using this
def c4F (M:Md)(E L N O La:SL)(b1 b2 b3 b4:Nat)(c:Int)(j:Nat)(q:Value):Prop:=match j with
 | 0=>q=M.ag E L N O
 | 1=>q=M.ad La
 | 2=>q=M.ad La
 | 3=>q=Pt b1
 | 4=>q=.agg M.cc
 | 5=>q=I4 c
 | 6=>q=M.ad La
 | _=>True
def c4S (M:Md)(E L N O La:SL)(b1 b2 b3 b4 B:Nat)(w00:World)(l:Nat→Bool)(w:World):Prop:=Below B w00 w∧B≤w.heap.size∧Blk 27 w b1 (M.mc E L N O)∧Blk 30 w b2 (M.rc La)∧Blk 27 w b3 (cond (l 7) (M.mc E L N O) z12)∧Blk 30 w b4 (cond (l 8) (M.rc La) z3)
theorem Qly {id:Nat}{ops:Array Oper}{Q:Exit→Act→World→Prop}{a0:Act}{w0:World}(M:Md)(E L N O La:SL)(b1 b2 b3 b4:Nat)(c:Int)(B:Nat)(w00:World)(hB1:B≤b3)(hB2:B≤b4)(n13:b1≠b3)
  (hlow:lowB ops=true) (hsz:ops.size=9)
  (oo:OpS ops 0 15 (.load 27 (.tmp 2)) []∧OpS ops 1 16 (.load 30 (.tmp 3)) []∧OpS ops 2 17 (.load 30 (.tmp 3)) []∧OpS ops 3 18 (.fieldAddr 27 (.tmp 2) 0) []∧OpS ops 4 19 (.load 23 (.tmp 18)) [3]∧OpS ops 5 20 (.call { callee:=.value (.func 55),args:=#[.tmp 17,.tmp 19],argTypes:=#[30,23] }) [2,4]∧OpS ops 6 21 (.call { callee:=.value (.func 54),args:=#[.tmp 16,.tmp 20],argTypes:=#[30,35] }) [1,5]∧OpIn ops 7 none (.store 27 (.tmp 4) (.tmp 15)) none [0]∧OpIn ops 8 none (.store 30 (.tmp 5) (.tmp 21)) none [6])
  (u2:a0.tmps.getD 2 undef=Pt b1) (u3:a0.tmps.getD 3 undef=Pt b2) (u4:a0.tmps.getD 4 undef=Pt b3) (u5:a0.tmps.getD 5 undef=Pt b4) (n24:b2≠b4)
  (hS:c4S M E L N O La b1 b2 b3 b4 B w00 (fun _=>false) w0.drew)
  (x5:∀ w,Below B w00 w→Calls Tryz.prog 55 #[M.ad La,.agg M.cc] w fun e w'=>e=.returned (I4 c)∧Bw w w')
  (x6:∀ w,Calls Tryz.prog 54 #[M.ad La,I4 c] w fun e w'=>e=.returned (M.ad La)∧Bw w w')
  (hs:22≤a0.tmps.size)
  (fin:∀ a w,a.tmps.size=a0.tmps.size→a.defers=a0.defers→(∀ s,(∀ i,i<9→c4D i≠some s)→a.tmps.getD s undef=a0.tmps.getD s undef)→Below B w00 w→Blk 27 w b3 (M.mc E L N O)→Blk 30 w b4 (M.rc La)→Q .normal a w):(Code.region id ops true).wp Tryz.prog Q a0 w0:=by
 obtain⟨o0,o1,o2,o3,o4,o5,o6,o7,o8⟩:=oo
 have r55:∀ args w,(callFunc 55 args).run Tryz.prog w=.ok (.enter 55 args) w:=eNo Tryz.func55 (by kernel_rfl) rfl
 have r54:∀ args w,(callFunc 54 args).run Tryz.prog w=.ok (.enter 54 args) w:=eNo Tryz.func54 (by kernel_rfl) rfl
 refine wRi (by kernel_rfl) hlow (Inv 9 c4D a0 (fun l _ w=>c4S M E L N O La b1 b2 b3 b4 B w00 l w) (fun _ j q _=>c4F M E L N O La b1 b2 b3 b4 c j q)) (Inv.start hS) ?_ ?_
 ·intro l i o a w ho hl hcl hdep hI
  have hi:i<9:=by rw[←hsz];exact (Array.getElem?_eq_some_iff.1 ho).1
  have ev:∀ (s:Nat),a.eval (.tmp s)=a.tmps.getD s undef:=fun _=>rfl
  have evf:∀ f,a.eval (.func f)=.func (.func f) #[] #[]:=fun _=>rfl
  have inj:∀ d,c4D i=some d→∀ j d',j<9→c4D j=some d'→j≠i→d'≠d:=fun d hd j d' hj hd' hne e=>hne (Qnz j hj i hi (by rw[hd',hd,e]) (by rw[hd'];simp))
  have kp:∀ s,(∀ i,i<9→c4D i≠some s)→a.tmps.getD s undef=a0.tmps.getD s undef:=hI.kept
  obtain⟨hw,hsz',k1,k2,k3,k4⟩:=hI.world
  have oth:∀ j,j≠i→(l j || j==i)=l j:=fun j hj=>by rw[show (j==i)=false by simp[hj],Bool.or_false]
  have sam:(l i || i==i)=true:=by simp
  have U2:=(kp 2 (by decide)).trans u2
  have U3:=(kp 3 (by decide)).trans u3
  have U4:=(kp 4 (by decide)).trans u4
  have U5:=(kp 5 (by decide)).trans u5
  have go:∀ {d:Nat}{v:Value}{w':World},c4D i=some d→i≠7∧i≠8→Bw w w'→c4F M E L N O La b1 b2 b3 b4 c i v→Inv 9 c4D a0 (fun l _ w=>c4S M E L N O La b1 b2 b3 b4 B w00 l w) (fun _ j q _=>c4F M E L N O La b1 b2 b3 b4 c j q) (fun j=>l j || j==i) (a.put (some d) v) w':=by
   intro d v w' hD hne hb hF
   refine hI.put hi hD (Nat.lt_of_lt_of_le (Qok i hi d hD) hs) (inj d hD) ⟨hw.trans (hb.mono hsz'),Nat.le_trans hsz' hb.size,k1.kept hb,k2.kept hb,?_,?_⟩ hF (fun j u _ _ _ hf=>hf)
   ·dsimp only
    rw[oth 7 (fun e=>hne.1 e.symm)]
    exact k3.kept hb
   ·dsimp only
    rw[oth 8 (fun e=>hne.2 e.symm)]
    exact k4.kept hb
  rcases l9 (show i<9 by omega) with rfl|rfl|rfl|rfl|rfl|rfl|rfl|rfl|rfl
  ·obtain⟨e2,e3,e4,dp⟩:=o0.at_ ho hdep
   exact wVa (v:=M.ag E L N O) (w':=w) ho e4 (by simp[execOp,e3,ev,U2,Qaj k1]) (by rw[e2];exact go rfl (by decide) bR rfl)
  ·obtain⟨e2,e3,e4,dp⟩:=o1.at_ ho hdep
   exact wVa (v:=M.ad La) (w':=w) ho e4 (by simp[execOp,e3,ev,U3,rL3 k2]) (by rw[e2];exact go rfl (by decide) bR rfl)
  ·obtain⟨e2,e3,e4,dp⟩:=o2.at_ ho hdep
   exact wVa (v:=M.ad La) (w':=w) ho e4 (by simp[execOp,e3,ev,U3,rL3 k2]) (by rw[e2];exact go rfl (by decide) bR rfl)
  ·obtain⟨e2,e3,e4,dp⟩:=o3.at_ ho hdep
   exact wVa (v:=Pt b1) (w':=w) ho e4 (by simp[execOp,e3,ev,U2,Qaw b1 0 0 (by omega)]) (by rw[e2];exact go rfl (by decide) bR rfl)
  ·obtain⟨e2,e3,e4,dp⟩:=o4.at_ ho hdep
   have V3:tm a 18=_:=hI.vl dp 3 18 rfl rfl
   exact wVa (v:=.agg M.cc) (w':=w) ho e4 (by simp[execOp,e3,ev,V3,Qck k1]) (by rw[e2];exact go rfl (by decide) bR rfl)
  ·obtain⟨e2,e3,e4,dp⟩:=o5.at_ ho hdep
   have V2:tm a 17=_:=hI.vl dp 2 17 rfl rfl
   have V4:tm a 19=_:=hI.vl dp 4 19 rfl rfl
   refine wCa (f:=55) (args:=#[M.ad La,.agg M.cc]) ho e4 (by simp[execOp,e3,resolve,invoke,Deferred.ofValue,r55,ev,evf,V2,V4]) ((x5 w hw).mono ?_)
   rintro e W' ⟨rfl,hb⟩
   refine⟨_,rfl,?_⟩
   rw[e2]
   exact go rfl (by decide) hb rfl
  ·obtain⟨e2,e3,e4,dp⟩:=o6.at_ ho hdep
   have V1:tm a 16=_:=hI.vl dp 1 16 rfl rfl
   have V5:tm a 20=_:=hI.vl dp 5 20 rfl rfl
   refine wCa (f:=54) (args:=#[M.ad La,I4 c]) ho e4 (by simp[execOp,e3,resolve,invoke,Deferred.ofValue,r54,ev,evf,V1,V5]) ((x6 w).mono ?_)
   rintro e W' ⟨rfl,hb⟩
   refine⟨_,rfl,?_⟩
   rw[e2]
   exact go rfl (by decide) hb rfl
  ·obtain⟨e2,e3,e4,dp⟩:=o7.at_ ho hdep
   have V0:tm a 15=_:=hI.vl dp 0 15 rfl rfl
   rw[hl] at k3
   obtain⟨w',r',q',on⟩:=Qcj k3 M.d M.h M.l M.v M.u M.x M.t M.n E L N O
   refine wSk (w':=w') ho e4 (by simp[execOp,e3,ev,U4,V0,r']) ?_
   rw[e2]
   refine hI.none_ rfl ⟨Only.below hw hB1 hsz' on,Nat.le_trans hsz' on.size,k1.only on n13,k2.only on (k2.apart k3 (by decide)),?_,?_⟩ (fun j u _ _ _ hf=>hf)
   ·dsimp only
    rw[sam]
    exact q'
   ·dsimp only
    rw[oth 8 (by decide)]
    exact k4.only on (k4.apart k3 (by decide))
  ·obtain⟨e2,e3,e4,dp⟩:=o8.at_ ho hdep
   have V6:tm a 21=_:=hI.vl dp 6 21 rfl rfl
   rw[hl] at k4
   obtain⟨w',r',q',on⟩:=QdL k4 M.r M.s La
   refine wSk (w':=w') ho e4 (by simp[execOp,e3,ev,U5,V6,r']) ?_
   rw[e2]
   refine hI.none_ rfl ⟨Only.below hw hB2 hsz' on,Nat.le_trans hsz' on.size,k1.only on (k1.apart k4 (by decide)),k2.only on n24,?_,?_⟩ (fun j u _ _ _ hf=>hf)
   ·dsimp only
    rw[oth 7 (by decide)]
    exact k3.only on (k3.apart k4 (by decide))
   ·dsimp only
    rw[sam]
    exact q'
 ·intro l a w hall hI
  have all:∀ j,j<9→l j=true:=fun j hj=>hall j (by rw[hsz];exact hj)
  obtain⟨hw,-,-,-,k3,k4⟩:=hI.world
  rw[all 7 (by decide)] at k3
  rw[all 8 (by decide)] at k4
  exact fin a w hI.size hI.defers hI.kept hw k3 k4
def c5D (i:Nat):Option Nat:=match i with|0=>some 15|1=>some 16|2=>some 17|3=>some 18|4=>some 19|5=>some 20|6=>some 21|_=>none
theorem Qny:∀ i,i<9→∀ j,j<9→c5D i=c5D j→c5D i≠none→i=j:=by decide
theorem Qoj:∀ i,i<9→∀ d,c5D i=some d→d<22:=by
 intro i hi d h
 have:∀ i,i<9→(c5D i).all (fun d=>decide (d<22))=true:=by decide
 have:=this i hi
 rw[h] at this
 simpa using this
def c5F (M:Md)(E L N O La:SL)(b1 b2 b3 b4:Nat)(c:Int)(j:Nat)(q:Value):Prop:=match j with
 | 0=>q=M.ag E L N O
 | 1=>q=M.ad La
 | 2=>q=M.ad La
 | 3=>q=Pt b1
 | 4=>q=.agg M.cc
 | 5=>q=I4 c
 | 6=>False
 | _=>True
def c5S (M:Md)(E L N O La:SL)(b1 b2 b3 b4 B:Nat)(w00:World)(l:Nat→Bool)(w:World):Prop:=Below B w00 w∧B≤w.heap.size∧Blk 27 w b1 (M.mc E L N O)∧Blk 30 w b2 (M.rc La)∧Blk 27 w b3 (cond (l 7) (M.mc E L N O) z12)∧Blk 30 w b4 (cond (l 8) (M.rc La) z3)
theorem Qlx {id:Nat}{ops:Array Oper}{Q:Exit→Act→World→Prop}{a0:Act}{w0:World}(M:Md)(E L N O La:SL)(b1 b2 b3 b4:Nat)(c:Int)(B:Nat)(w00:World)(ch:List PanicEntry)(hB1:B≤b3)(hB2:B≤b4)(n13:b1≠b3)
  (hlow:lowB ops=true) (hsz:ops.size=9)
  (oo:OpS ops 0 15 (.load 27 (.tmp 2)) []∧OpS ops 1 16 (.load 30 (.tmp 3)) []∧OpS ops 2 17 (.load 30 (.tmp 3)) []∧OpS ops 3 18 (.fieldAddr 27 (.tmp 2) 0) []∧OpS ops 4 19 (.load 23 (.tmp 18)) [3]∧OpS ops 5 20 (.call { callee:=.value (.func 55),args:=#[.tmp 17,.tmp 19],argTypes:=#[30,23] }) [2,4]∧OpS ops 6 21 (.call { callee:=.value (.func 54),args:=#[.tmp 16,.tmp 20],argTypes:=#[30,35] }) [1,5]∧OpIn ops 7 none (.store 27 (.tmp 4) (.tmp 15)) none [0]∧OpIn ops 8 none (.store 30 (.tmp 5) (.tmp 21)) none [6])
  (u2:a0.tmps.getD 2 undef=Pt b1) (u3:a0.tmps.getD 3 undef=Pt b2) (u4:a0.tmps.getD 4 undef=Pt b3) (u5:a0.tmps.getD 5 undef=Pt b4) (n24:b2≠b4)
  (hS:c5S M E L N O La b1 b2 b3 b4 B w00 (fun _=>false) w0.drew)
  (x5:∀ w,Below B w00 w→Calls Tryz.prog 55 #[M.ad La,.agg M.cc] w fun e w'=>e=.returned (I4 c)∧Bw w w')
  (x6:∀ w,Calls Tryz.prog 54 #[M.ad La,I4 c] w fun e w'=>e=.panicked ch∧Bw w w')
  (hs:22≤a0.tmps.size)
  (pan:∀ a w,a.defers=a0.defers→Below B w00 w→Q (.panic ch) a w):(Code.region id ops true).wp Tryz.prog Q a0 w0:=by
 obtain⟨o0,o1,o2,o3,o4,o5,o6,o7,o8⟩:=oo
 have r55:∀ args w,(callFunc 55 args).run Tryz.prog w=.ok (.enter 55 args) w:=eNo Tryz.func55 (by kernel_rfl) rfl
 have r54:∀ args w,(callFunc 54 args).run Tryz.prog w=.ok (.enter 54 args) w:=eNo Tryz.func54 (by kernel_rfl) rfl
 refine wRi (by kernel_rfl) hlow (Inv 9 c5D a0 (fun l _ w=>c5S M E L N O La b1 b2 b3 b4 B w00 l w) (fun _ j q _=>c5F M E L N O La b1 b2 b3 b4 c j q)) (Inv.start hS) ?_ ?_
 ·intro l i o a w ho hl hcl hdep hI
  have hi:i<9:=by rw[←hsz];exact (Array.getElem?_eq_some_iff.1 ho).1
  have ev:∀ (s:Nat),a.eval (.tmp s)=a.tmps.getD s undef:=fun _=>rfl
  have evf:∀ f,a.eval (.func f)=.func (.func f) #[] #[]:=fun _=>rfl
  have inj:∀ d,c5D i=some d→∀ j d',j<9→c5D j=some d'→j≠i→d'≠d:=fun d hd j d' hj hd' hne e=>hne (Qny j hj i hi (by rw[hd',hd,e]) (by rw[hd'];simp))
  have kp:∀ s,(∀ i,i<9→c5D i≠some s)→a.tmps.getD s undef=a0.tmps.getD s undef:=hI.kept
  obtain⟨hw,hsz',k1,k2,k3,k4⟩:=hI.world
  have oth:∀ j,j≠i→(l j || j==i)=l j:=fun j hj=>by rw[show (j==i)=false by simp[hj],Bool.or_false]
  have sam:(l i || i==i)=true:=by simp
  have U2:=(kp 2 (by decide)).trans u2
  have U3:=(kp 3 (by decide)).trans u3
  have U4:=(kp 4 (by decide)).trans u4
  have U5:=(kp 5 (by decide)).trans u5
  have go:∀ {d:Nat}{v:Value}{w':World},c5D i=some d→i≠7∧i≠8→Bw w w'→c5F M E L N O La b1 b2 b3 b4 c i v→Inv 9 c5D a0 (fun l _ w=>c5S M E L N O La b1 b2 b3 b4 B w00 l w) (fun _ j q _=>c5F M E L N O La b1 b2 b3 b4 c j q) (fun j=>l j || j==i) (a.put (some d) v) w':=by
   intro d v w' hD hne hb hF
   refine hI.put hi hD (Nat.lt_of_lt_of_le (Qoj i hi d hD) hs) (inj d hD) ⟨hw.trans (hb.mono hsz'),Nat.le_trans hsz' hb.size,k1.kept hb,k2.kept hb,?_,?_⟩ hF (fun j u _ _ _ hf=>hf)
   ·dsimp only
    rw[oth 7 (fun e=>hne.1 e.symm)]
    exact k3.kept hb
   ·dsimp only
    rw[oth 8 (fun e=>hne.2 e.symm)]
    exact k4.kept hb
  rcases l9 (show i<9 by omega) with rfl|rfl|rfl|rfl|rfl|rfl|rfl|rfl|rfl
  ·obtain⟨e2,e3,e4,dp⟩:=o0.at_ ho hdep
   exact wVa (v:=M.ag E L N O) (w':=w) ho e4 (by simp[execOp,e3,ev,U2,Qaj k1]) (by rw[e2];exact go rfl (by decide) bR rfl)
  ·obtain⟨e2,e3,e4,dp⟩:=o1.at_ ho hdep
   exact wVa (v:=M.ad La) (w':=w) ho e4 (by simp[execOp,e3,ev,U3,rL3 k2]) (by rw[e2];exact go rfl (by decide) bR rfl)
  ·obtain⟨e2,e3,e4,dp⟩:=o2.at_ ho hdep
   exact wVa (v:=M.ad La) (w':=w) ho e4 (by simp[execOp,e3,ev,U3,rL3 k2]) (by rw[e2];exact go rfl (by decide) bR rfl)
  ·obtain⟨e2,e3,e4,dp⟩:=o3.at_ ho hdep
   exact wVa (v:=Pt b1) (w':=w) ho e4 (by simp[execOp,e3,ev,U2,Qaw b1 0 0 (by omega)]) (by rw[e2];exact go rfl (by decide) bR rfl)
  ·obtain⟨e2,e3,e4,dp⟩:=o4.at_ ho hdep
   have V3:tm a 18=_:=hI.vl dp 3 18 rfl rfl
   exact wVa (v:=.agg M.cc) (w':=w) ho e4 (by simp[execOp,e3,ev,V3,Qck k1]) (by rw[e2];exact go rfl (by decide) bR rfl)
  ·obtain⟨e2,e3,e4,dp⟩:=o5.at_ ho hdep
   have V2:tm a 17=_:=hI.vl dp 2 17 rfl rfl
   have V4:tm a 19=_:=hI.vl dp 4 19 rfl rfl
   refine wCa (f:=55) (args:=#[M.ad La,.agg M.cc]) ho e4 (by simp[execOp,e3,resolve,invoke,Deferred.ofValue,r55,ev,evf,V2,V4]) ((x5 w hw).mono ?_)
   rintro e W' ⟨rfl,hb⟩
   refine⟨_,rfl,?_⟩
   rw[e2]
   exact go rfl (by decide) hb rfl
  ·obtain⟨e2,e3,e4,dp⟩:=o6.at_ ho hdep
   have V1:tm a 16=_:=hI.vl dp 1 16 rfl rfl
   have V5:tm a 20=_:=hI.vl dp 5 20 rfl rfl
   refine Qdp (f:=54) (args:=#[M.ad La,I4 c]) ho e4 (by simp[execOp,e3,resolve,invoke,Deferred.ofValue,r54,ev,evf,V1,V5]) ((x6 w).mono ?_)
   rintro e W' ⟨rfl,hb⟩
   exact⟨ch,rfl,pan a W' hI.defers (hw.trans (hb.mono hsz'))⟩
  ·obtain⟨e2,e3,e4,dp⟩:=o7.at_ ho hdep
   have V0:tm a 15=_:=hI.vl dp 0 15 rfl rfl
   rw[hl] at k3
   obtain⟨w',r',q',on⟩:=Qcj k3 M.d M.h M.l M.v M.u M.x M.t M.n E L N O
   refine wSk (w':=w') ho e4 (by simp[execOp,e3,ev,U4,V0,r']) ?_
   rw[e2]
   refine hI.none_ rfl ⟨Only.below hw hB1 hsz' on,Nat.le_trans hsz' on.size,k1.only on n13,k2.only on (k2.apart k3 (by decide)),?_,?_⟩ (fun j u _ _ _ hf=>hf)
   ·dsimp only
    rw[sam]
    exact q'
   ·dsimp only
    rw[oth 8 (by decide)]
    exact k4.only on (k4.apart k3 (by decide))
  ·obtain⟨e2,e3,e4,dp⟩:=o8.at_ ho hdep
   exact ((hI.vl dp 6 21 rfl rfl):False).elim
 ·intro l a w hall hI
  have all:∀ j,j<9→l j=true:=fun j hj=>hall j (by rw[hsz];exact hj)
  exact ((hI.va all 6 21 rfl rfl):False).elim
theorem Qd1 {P:Program}(w:World){ops:Array Oper}{rest:List Oper}{o:Oper}{a:Act}{Q:Exit→Act→World→Prop}
  (hg:o.guard=none) (l c:Operand) (t:TypeId) (hop:o.op=Op.makeSlice t l c)
  (e:TypeId) (i:TypeInfo) (z:Value) (h1:P.underlying t=some (.slice e)) (h2:P.info? e=some i) (h3:i.zero=some z) (h4:i.size=1)
  (kl kc:IntKind) (L C:Int) (n m:Nat) (hl:a.eval l=.int kl L) (hc:a.eval c=.int kc C) (hL:L=(n:Int)) (hC:C=(m:Int)) (hnm:n≤m) (b2:i.bytes*m≤281474976710656) (b3:m≤maxLen)
  (hK:∀ w',w'.ownsRow w.heap.size e 1 (.slice (some ⟨w.heap.size,0,none⟩) n m) n ((madeCells z.cells m).toList.take n)→Bw w w'→wpList P ops Q rest (a.put o.dst (.slice (some ⟨w.heap.size,0,none⟩) n m)) w') :
  wpList P ops Q (o :: rest) a w:=by
 refine wpList_plain hg fun K hK'=>?_
 subst hL
 subst hC
 have b3':m≤9223372036854775807:=by unfold maxLen at b3;omega
 have hby:((i.bytes*m:Nat):Int)≤281474976710656:=by omega
 rw[Int.natCast_mul] at hby
 have hrun:=run_make (P:=P) w t e i z h1 h2 h3 kl kc n m (by omega) (by omega) hby (by omega)
 simp only[Int.toNat_natCast,h4,Nat.mul_one] at hrun
 unfold Oper.wp
 simp[execOp,hop,hl,hc,hrun,Result.andThen]
 refine hK' _ _ (hK _ ⟨?_,.inr ⟨w.heap.size,m,_,rfl,Nat.le_refl _,heap_alloc_new w _,hnm,b3,?_,?_⟩⟩ (bNw bR _))
 ·simp[size_madeCells];omega
 ·rw[size_madeCells,Nat.mul_one]
 ·rw[Nat.mul_one]
theorem QgX {w wr:World}{a:Option Addr}{n:Nat}{A:Nat→Option Addr}{C:Nat→Nat}{P:Nat→List Int}(h:Grid w a n A C P)(hb:Bw w wr){f d:Nat}(hd:0<d)(hr:∀ r,r<n→f+d≤(P r).length){v:Value}{cs:List Value}{G:Nat→Nat}(ho:wr.ownsRow w.heap.size 34 1 v n cs)
  (hc:∀ j,j<n→cs[j]? = some (.slice (cutA A f j) d (G j))) (last:List Int):Qab w.heap.size wr v n (cutA A f) G (Qa1 P n f d last):=by
 have el:∀ r,r<n→Qa1 P n f d last r=cutR P f d r:=fun r hr'=>by unfold Qa1 cutR;rw[if_pos hr']
 have ln:∀ r,r<n→(Qa1 P n f d last r).length=d:=fun r hr'=>by rw[el r hr',QaV P f d r (hr r hr')]
 have rd:∀ r,r<n→Reads .i64 w (cutA A f r) d (Qa1 P n f d last r):=fun r hr'=>by
  rw[el r hr']
  have q:=h.row r hr'
  obtain⟨y,ey⟩:=q.some_ (by have:=hr r hr';omega)
  have eA:cutA A f r=some (y.add f):=by unfold cutA;rw[ey];rfl
  rw[eA]
  rw[ey] at q
  exact q.cut f d (hr r hr')
 have e:cs=Qdb (cutA A f) G (Qa1 P n f d last) n:=by
  refine List.ext_getElem? fun j=>?_
  by_cases hj:j<n
  ·rw[hc j hj]
   simp[Qdb,hj,ln j hj]
  ·have:=oLe ho
   rw[List.getElem?_eq_none (by omega),List.getElem?_eq_none (by simp[Qdb];omega)]
 refine⟨e ▸ ho,fun r hr'=>by rw[ln r hr'];exact (rd r hr').below hb,fun r hr' h0 x hx g hg=>?_⟩
 have c0:=(rd r hr').cell x hx 0 (by omega)
 have lt:x.block<w.heap.size:=by
  have:=World.block_lt_of_cell? w _ c0
  simpa [Addr.add] using this
 have:=(ho.lt g hg).1
 omega
theorem Qfx (a:Option Addr)(n c:Nat)(A:Nat→Option Addr)(C:Nat→Nat)(P:Nat→List Int)(f d:Nat)(last:List Int)(w:World)(h:Grid w a n A C P)(hC:∀ r,r<n→(P r).length≤C r)(hd:0<d)(hr:∀ r,r<n→f+d≤(P r).length)(hb:n≤1000) :
  Calls Tryz.prog 61 #[.slice a n c,I4 f,I4 d] w fun e w'=>e=.returned (.slice (some ⟨w.heap.size,0,none⟩) n (n+1))∧Qab w.heap.size w' (.slice (some ⟨w.heap.size,0,none⟩) n (n+1)) n (cutA A f) (fun _=>d) (Qa1 P n f d last)∧Bw w w':=by
 obtain⟨i0,hi,hz0,hz1,hz2⟩:=info_parts Qcl
 have hm:=h.max
 obtain⟨m,em⟩:∃ m,n+1=m:=⟨_,rfl⟩
 have em':(n:Int)+1=(m:Int):=by omega
 have hmb:m≤1001:=by omega
 have hnm:n≤m:=by omega
 rw[em]
 clear em
 go_enter Tryz.func61,Tryz.ntmps61
 go_wp2_with (first
  | (at_make;refine Qd1 _ rfl (.tmp 11) (.tmp 14) 31 rfl 34 i0 (.slice none 0 0) Tryz.underlying31 hi hz0 hz1 .i64 .i64 _ _ n m rfl rfl rfl (by first|rfl|omega) hnm (by rw[hz2];omega) (by unfold maxLen;omega) ?_;intro w1 hown hbel))
 clear em'
 go_wp2
 go_loopw [18] (fun i wr=>∃ k:Nat,k≤n∧i=I4 k∧Bw w wr∧∃ cs,wr.ownsRow w.heap.size 34 1 (.slice (some ⟨w.heap.size,0,none⟩) n m) n cs∧∀ j,j<k→cs[j]? = some (.slice (cutA A f j) d d)) (fun i _=>n-(intOf i).toNat)
 case atStart=>exact⟨0,Nat.zero_le _,rfl,hbel,_,hown,fun j hj=>by omega⟩
 case round =>
  clear hown hbel
  obtain⟨k,hk,rfl,hbr,cs,ho,hcs⟩:=hrel
  by_cases hlt:k<n
  ·obtain⟨x,rfl⟩:=h.some_ (by omega)
   have rk:=h.row k hlt
   have cx:=(h.below hbr).cell x rfl k hlt
   have h1:=hr k hlt
   have h2:=hC k hlt
   have h3:=rk.max
   obtain⟨y,ey⟩:=rk.some_ (by omega)
   have eA:cutA A f k=some (y.add f):=by unfold cutA;rw[ey];rfl
   rw[ey] at cx
   obtain⟨G,eG⟩:∃ G,(P k).length=G:=⟨_,rfl⟩
   rw[eG] at cx h1 h2 h3
   obtain⟨K,eK⟩:∃ K,C k=K:=⟨_,rfl⟩
   rw[eK] at cx h2
   obtain⟨Q,eQ⟩:∃ Q,f+d=Q:=⟨_,rfl⟩
   have eQ':(f:Int)+(d:Int)=(Q:Int):=by omega
   have eQ2:Q-f=d:=by omega
   have hQ:Q≤G:=by omega
   have hQ':Q≤K:=by omega
   have hP:f<Q:=by omega
   have hlen:=oLe ho
   obtain⟨u,hu⟩:∃ u,cs[k]? = some u:=⟨cs[k],by simp[hlen,hlt]⟩
   have cell:wr.cell? ⟨w.heap.size,k,none⟩=some u:=(ho.cellAt k (by omega)).trans hu
   have froz:=ho.frozenAt k
   have Rr:Hid (Bw w (wr.setCell ⟨w.heap.size,k,none⟩ (.slice (some (y.add f)) d d))∧∃ cs',(wr.setCell ⟨w.heap.size,k,none⟩ (.slice (some (y.add f)) d d)).ownsRow w.heap.size 34 1 (.slice (some ⟨w.heap.size,0,none⟩) n m) n cs'∧∀ j,j<k+1→cs'[j]? = some (.slice (cutA A f j) d d)) :=
    ⟨hbr.setCell nL _,_,(ho.stored k _).1,set_step (F:=fun j=>Value.slice (cutA A f j) d d) hlen hlt (by rw[eA]) hcs⟩
   clear eQ eG eK eA ey rk ho hcs hlen hbr hu h hr hC hi hz0 hz1 hz2
   go_wp2
   go_roundw
   case rel=>exact⟨k+1,by omega,by go_num,Rr.out⟩
   case measure=>simp[intOf];omega
  ·have e:k=n:=by omega
   subst e
   have fin:=QgX h hbr hd hr ho hcs last
   clear hcs ho
   go_wp2
   go_ret
   exact⟨rfl,fin,hbr⟩
theorem QiL (a:Option Addr)(n c:Nat)(A:Nat→Option Addr)(C:Nat→Nat)(R:Nat→List Int)(f d:Nat)(last:List Int)(w:World)(h:Grid w a n A C R)(hC:∀ r,r<n→(R r).length≤C r)(hd:0<d)(hr:∀ r,r<n→f+d≤(R r).length)(hb:n≤1000) :
  Calls Tryz.prog 68 #[.slice a n c,I4 f,I4 d] w fun e w'=>(∃ v,e=.returned v∧Qab w.heap.size w' v n (cutA A f) (fun r=>C r-f) (Qa1 R n f d last))∧Bw w w':=by
 obtain⟨i0,hi,hz0,hz1,hz2⟩:=info_parts Qcl
 have hm:=h.max
 go_enter Tryz.func68,Tryz.ntmps68
 go_wp2
 go_loopw [7,8] (fun v i wr=>∃ k:Nat,k≤n∧i=I4 k∧Bw w wr∧wr.ownsRow w.heap.size 34 1 v k (QbM A C f d k)) (fun _ i _=>n-(intOf i).toNat)
 case atStart=>exact⟨0,Nat.zero_le _,rfl,Below.refl _ _,World.ownsRow_nil _ _ _ _⟩
 case round =>
  obtain⟨k,hk,rfl,hbr,ho⟩:=hrel
  by_cases hlt:k<n
  ·obtain⟨x,rfl⟩:=h.some_ (by omega)
   have rk:=h.row k hlt
   have cx:=(h.below hbr).cell x rfl k hlt
   have h1:=hr k hlt
   have h2:=hC k hlt
   have h3:=rk.max
   obtain⟨y,ey⟩:=rk.some_ (by omega)
   have eA:cutA A f k=some (y.add f):=by unfold cutA;rw[ey];rfl
   have es:=Qde A C f d k
   rw[eA] at es
   have Es:Hid _:=es
   rw[ey] at cx
   obtain⟨L,eL⟩:∃ L,(R k).length=L:=⟨_,rfl⟩
   rw[eL] at cx h1 h2 h3
   obtain⟨G,eG⟩:∃ G,C k=G:=⟨_,rfl⟩
   rw[eG] at cx h2 Es
   obtain⟨Q,eQ⟩:∃ Q,f+d=Q:=⟨_,rfl⟩
   have eQ':(f:Int)+(d:Int)=(Q:Int):=by omega
   have eQ2:Q-f=d:=by omega
   have hQ:Q≤G:=by omega
   have hP:f<Q:=by omega
   have hG:¬G=f:=by omega
   have hQ3:Q≤9223372036854775807:=by omega
   have hsz:=hbr.size
   clear eQ eG eL eA es ey rk h hr hC
   go_wp2_with (at_builtin;refine wpList_append_own _ rfl (.tmp 15) (.tmp 25) 31 rfl w.heap.size 34 i0 (.slice none 0 0) 1 24 Tryz.underlying31 hi hz0 hz1 hz2 rfl (by decide) _ _ _ rfl (ho.alloc _) ⟨_,0,none⟩ 1 1 [.slice (some (y.add f)) d (G-f)] rfl rfl (Qai _ _ _) (by simp[Value.oneCell']) (by unfold maxLen;omega) (by omega) (by simp;omega) ?_;intro v' w1 ho' hg _)
   go_roundw
   case rel =>
    refine⟨k+1,by omega,by go_num,?_,?_⟩
    ·exact (hbr.alloc hsz _).grown hg (by have:=(Below.refl w.heap.size wr).alloc hsz (.cells #[.slice (some (y.add f)) d (G-f)] 34);have:=this.size;omega) (fun g h=>(ho.lt g h).1)
    ·rw[Es.out];exact ho'
   case measure=>simp[intOf];omega
  ·have e:k=n:=by omega
   subst e
   have fin:=QgX h hbr hd hr ho (G:=fun r=>C r-f) (fun j hj=>by simp[QbM,hj]) last
   clear ho
   go_wp2
   go_ret
   exact⟨⟨_,rfl,fin⟩,hbr⟩
section
open Go.Sort hiding Below
theorem Qf4 (R S d h l v u x t n:Int)(La:Option Addr)(ml Lc:Nat)(w:World)
  (k35:∀ w,Calls Tryz.prog 83 #[I4 R,I4 S,.agg (c8 d h l v u x t n)] w fun e w'=>e=.returned (.bool false)∧Bw w w') :
  Calls Tryz.prog 65 #[.agg #[I4 R,I4 S,.slice La ml Lc],.agg (c8 d h l v u x t n)] w fun e w'=>e=.returned (I4 20)∧Bw w w':=by
 have hb:=bNw (bNw (bS w) (.cells #[I4 R,I4 S,.slice La ml Lc] 30)) (.cells (c8 d h l v u x t n) 23)
 have qa:Blk 30 ((w.alloc (.cells #[I4 R,I4 S,.slice La ml Lc] 30)).alloc (.cells (c8 d h l v u x t n) 23)) w.heap.size #[I4 R,I4 S,.slice La ml Lc]:=(Blk.new 30 w _).kept (bNw bR _)
 have qc:Blk 23 ((w.alloc (.cells #[I4 R,I4 S,.slice La ml Lc] 30)).alloc (.cells (c8 d h l v u x t n) 23)) (w.heap.size+1) (c8 d h l v u x t n):=Blk.new_at 23 (w.alloc _) _ _ (by simp)
 obtain⟨a0,a1,a2⟩:=qa.c3
 obtain⟨c0,c1,c2,c3,c4,c5,c6,c7⟩:=qc.cfg
 go_enter Tryz.func65,Tryz.ntmps65
 go_wp2_with (first|(go_at_call 83;refine (k35 _).mono ?_;rintro e W1 ⟨rfl,h1⟩;replace qa:=qa.kept h1;replace qc:=qc.kept h1;replace hb:=bTn hb h1;clear h1 a0 a1 a2 c0 c1 c2 c3 c4 c5 c6 c7;obtain⟨a0,a1,a2⟩:=qa.c3;obtain⟨c0,c1,c2,c3,c4,c5,c6,c7⟩:=qc.cfg))
 go_ret
 exact⟨rfl,hb⟩
theorem QfN (R S d h l v u x t n:Int)(La:Option Addr)(ml Lc:Nat)(L:SL)(Y:Nat→Nat→SL)(m:AdV)(w:World)(hM:AdAt w L Y m)(eA:L.a=La)(hml:m.ln=ml)(hl:ml≤9223372036854775807)(N V:Int)(B0:Bool)(hN:R*d=N)(n0:-9223372036854775808≤N)(n1:N≤9223372036854775807)(g:((ml:Int)==l)=B0)
  (few:B0=false→V=21) (no:∀ i,i<ml→∀ j,j<4→((Y i j).n:Int)≠N→V=21) (yes:(∀ i,i<ml→∀ j,j<4→((Y i j).n:Int)=N)→V=0∨B0=false)
  (k35:∀ w,Calls Tryz.prog 83 #[I4 R,I4 S,.agg (c8 d h l v u x t n)] w fun e w'=>e=.returned (.bool true)∧Bw w w') :
  Calls Tryz.prog 65 #[.agg #[I4 R,I4 S,.slice La ml Lc],.agg (c8 d h l v u x t n)] w fun e w'=>e=.returned (I4 V)∧Bw w w':=by
 have hb:=bNw (bNw (bS w) (.cells #[I4 R,I4 S,.slice La ml Lc] 30)) (.cells (c8 d h l v u x t n) 23)
 have qa:Blk 30 ((w.alloc (.cells #[I4 R,I4 S,.slice La ml Lc] 30)).alloc (.cells (c8 d h l v u x t n) 23)) w.heap.size #[I4 R,I4 S,.slice La ml Lc]:=(Blk.new 30 w _).kept (bNw bR _)
 have qc:Blk 23 ((w.alloc (.cells #[I4 R,I4 S,.slice La ml Lc] 30)).alloc (.cells (c8 d h l v u x t n) 23)) (w.heap.size+1) (c8 d h l v u x t n):=Blk.new_at 23 (w.alloc _) _ _ (by simp)
 obtain⟨a0,a1,a2⟩:=qa.c3
 obtain⟨c0,c1,c2,c3,c4,c5,c6,c7⟩:=qc.cfg
 have HM:=hdn hM
 have HN:=hdn no
 have HY:=hdn yes
 have HW:=hdn few
 have HL:=hdn hml
 have HA:=hdn eA
 clear hM no yes hml eA few
 go_enter Tryz.func65,Tryz.ntmps65
 go_wp2_with (first|(go_at_call 83;refine (k35 _).mono ?_;rintro e W1 ⟨rfl,h1⟩;replace qa:=qa.kept h1;replace qc:=qc.kept h1;replace hb:=bTn hb h1;clear h1 a0 a1 a2 c0 c1 c2 c3 c4 c5 c6 c7;obtain⟨a0,a1,a2⟩:=qa.c3;obtain⟨c0,c1,c2,c3,c4,c5,c6,c7⟩:=qc.cfg))
 have HB:=hdn (And.intro hb qa)
 clear hb qa qc a0 a1 a2 c0 c1 c2 c3 c4 c5 c6 c7 g k35 hN
 have good0:Hid (if B0=true then (∀ i,i<0→∀ j,j<4→((Y i j).n:Int)=N) else V=21):=by
  show if B0=true then (∀ i,i<0→∀ j,j<4→((Y i j).n:Int)=N) else V=21
  cases B0 with
  | true=>exact fun i hi=>absurd hi (Nat.not_lt_zero _)
  | false=>exact HW.out rfl
 go_loopw [6,7] (fun ok i wr=>∃ k:Nat,k≤ml∧i=I4 k∧∃ b:Bool,ok=.bool b∧Hid (b=true→B0=true)∧Bw w wr∧Blk 30 wr w.heap.size #[I4 R,I4 S,.slice La ml Lc]∧Hid (if b=true then (∀ i,i<k→∀ j,j<4→((Y i j).n:Int)=N) else V=21)) (fun _ i _=>ml-(intOf i).toNat)
 case atStart=>exact⟨0,Nat.zero_le _,rfl,B0,rfl,fun h=>h,HB.out.1,HB.out.2,good0⟩
 case round =>
  clear HB good0
  obtain⟨k,hk,rfl,b,rfl,bb,hb,qa,good⟩:=hrel
  obtain⟨a0,a1,a2⟩:=qa.c3
  cases b with
  | false =>
   have e:V=21:=good.out
   subst e
   by_cases hlt:k<ml
   ·have hlt':(k:Int)<(ml:Int):=by omega
    go_wp2
    go_ret
    exact⟨rfl,hb⟩
   ·have hlt':¬(k:Int)<(ml:Int):=by omega
    go_wp2
    go_ret
    exact⟨rfl,hb⟩
  | true =>
   by_cases hlt:k<ml
   ·have hlt':(k:Int)<(ml:Int):=by omega
    have BB:Hid (true=true→B0=true):=bb
    clear bb
    have GOOD:Hid (∀ i,i<k→∀ j,j<4→((Y i j).n:Int)=N):=good
    have hMr:=HM.out.below hb
    have hkm:k<m.ln:=by rw[HL.out];exact hlt
    obtain⟨x0,hx0⟩:=hMr.some_ (by omega)
    obtain rfl:La=some x0:=HA.out.symm.trans hx0
    obtain⟨P,eP,p0,p1,p2,p3⟩:=Qiz (fun j hj=>hMr.cell x0 hx0 k hkm j hj)
    have q5:=Blk.new 61 wr #[(Y k 0).w,(Y k 1).w,(Y k 2).w,(Y k 3).w]
    have b5:=bNw (Below.refl wr.heap.size wr) (.cells #[(Y k 0).w,(Y k 1).w,(Y k 2).w,(Y k 3).w] 61)
    obtain⟨W5,e5⟩:∃ W5,wr.alloc (.cells #[(Y k 0).w,(Y k 1).w,(Y k 2).w,(Y k 3).w] 61)=W5:=⟨_,rfl⟩
    rw[e5] at q5 b5
    have hb5:=bTn hb b5
    have qa5:=qa.kept b5
    obtain⟨y0,y1,y2,y3⟩:=q5.c4
    clear hMr good b5 hb qa q5
    by_cases g0:((Y k 0).n:Int)=N
    ·have t0:(((Y k 0).n:Int)==N)=true:=by simp[g0]
     by_cases g1:((Y k 1).n:Int)=N
     ·have t1:(((Y k 1).n:Int)==N)=true:=by simp[g1]
      by_cases g2:((Y k 2).n:Int)=N
      ·have t2:(((Y k 2).n:Int)==N)=true:=by simp[g2]
       by_cases g3:((Y k 3).n:Int)=N
       ·have t3:(((Y k 3).n:Int)==N)=true:=by simp[g3]
        have good':Hid (if true=true then (∀ i,i<k+1→∀ j,j<4→((Y i j).n:Int)=N) else V=21):=by
         show ∀ i,i<k+1→∀ j,j<4→((Y i j).n:Int)=N
         intro i hi j hj
         by_cases e:i=k
         ·subst e
          rcases l4 (show j<4 by omega) with rfl|rfl|rfl|rfl<;>assumption
         ·exact GOOD.out i (by omega) j hj
        clear g0 g1 g2 g3
        go_wp2
        go_roundw
        case rel=>exact⟨k+1,by omega,by go_num,true,rfl,BB,hb5,qa5,good'⟩
        case measure=>simp[intOf];omega
       ·have t3:(((Y k 3).n:Int)==N)=false:=by simp[g3]
        have good':Hid (if false=true then (∀ i,i<k+1→∀ j,j<4→((Y i j).n:Int)=N) else V=21):=by
         show V=21
         exact HN.out k hlt 3 (by decide) g3
        clear g0 g1 g2 g3
        go_wp2
        go_roundw
        case rel=>exact⟨k+1,by omega,by go_num,false,rfl,(fun h=>by cases h),hb5,qa5,good'⟩
        case measure=>simp[intOf];omega
      ·have t2:(((Y k 2).n:Int)==N)=false:=by simp[g2]
       have good':Hid (if false=true then (∀ i,i<k+1→∀ j,j<4→((Y i j).n:Int)=N) else V=21):=by
        show V=21
        exact HN.out k hlt 2 (by decide) g2
       clear g0 g1 g2
       go_wp2
       go_roundw
       case rel=>exact⟨k+1,by omega,by go_num,false,rfl,(fun h=>by cases h),hb5,qa5,good'⟩
       case measure=>simp[intOf];omega
     ·have t1:(((Y k 1).n:Int)==N)=false:=by simp[g1]
      have good':Hid (if false=true then (∀ i,i<k+1→∀ j,j<4→((Y i j).n:Int)=N) else V=21):=by
       show V=21
       exact HN.out k hlt 1 (by decide) g1
      clear g0 g1
      go_wp2
      go_roundw
      case rel=>exact⟨k+1,by omega,by go_num,false,rfl,(fun h=>by cases h),hb5,qa5,good'⟩
      case measure=>simp[intOf];omega
    ·have t0:(((Y k 0).n:Int)==N)=false:=by simp[g0]
     have good':Hid (if false=true then (∀ i,i<k+1→∀ j,j<4→((Y i j).n:Int)=N) else V=21):=by
      show V=21
      exact HN.out k hlt 0 (by decide) g0
     clear g0
     go_wp2
     go_roundw
     case rel=>exact⟨k+1,by omega,by go_num,false,rfl,(fun h=>by cases h),hb5,qa5,good'⟩
     case measure=>simp[intOf];omega
   ·have hlt':¬(k:Int)<(ml:Int):=by omega
    have e:k=ml:=by omega
    subst e
    have gd:∀ i,i<k→∀ j,j<4→((Y i j).n:Int)=N:=good.out
    rcases HY.out gd with e|e
    ·subst e
     clear gd
     go_wp2
     go_ret
     exact⟨rfl,hb⟩
    ·exfalso
     have:=bb.out rfl
     rw[e] at this
     cases this
theorem QeY (R S d h l v u x t n:Int)(L:SL)(Y:Nat→Nat→SL)(m:AdV)(w:World)(hM:AdAt w L Y m)(hm:m.ln≤9223372036854775807) :
  Calls Tryz.prog 65 #[.agg #[I4 R,I4 S,.slice L.a L.n L.c],.agg (c8 d h l v u x t n)] w fun e w'=>e=.returned (I4 (QbB R S d h l v u x t n m))∧Bw w w':=by
 have k35:=QcF R S d h l v u x t n
 unfold QbB
 cases ok:okA R S d h l v u x t n with
 | false =>
  rw[if_neg (by simp)]
  simp only[ok] at k35
  exact Qf4 R S d h l v u x t n L.a L.n L.c w k35
 | true =>
  rw[if_pos rfl]
  simp only[ok] at k35
  have r:=Qgv ok
  have r0:=r.r0
  have r1:=r.r1
  have d0:=r.d0
  have d1:=r.d1
  have hp:0≤R*d:=Int.mul_nonneg (by omega) (by omega)
  have hp':R*d≤4*8:=Int.mul_le_mul r1 d1 (by omega) (by omega)
  have hlen:∀ i,i<m.ln→∀ j,j<4→(Y i j).n=(m.f i j).length:=fun i hi j hj=>(hM.lay i hi j hj).reads.len.symm
  have hn:L.n=m.ln:=hM.len
  rw[hn]
  refine QfN R S d h l v u x t n L.a m.ln L.c L Y m w hM rfl rfl hm (R*d) _ _ rfl (by omega) (by omega) rfl (fun e=>?_) (fun i hi j hj hne=>?_) (fun hall=>?_) k35
  ·rw[if_neg]
   rintro⟨q,_⟩
   simp[q] at e
  ·rw[if_neg]
   rintro⟨_,hq⟩
   exact hne (by rw[hlen i hi j hj];exact QbX.1 hq i hi j hj)
  ·by_cases e:(m.ln:Int)=l
   ·exact .inl (by rw[if_pos ⟨e,QbX.2 fun i hi j hj=>by rw[←hlen i hi j hj];exact hall i hi j hj⟩])
   ·exact .inr (by simp[e])
end
end Go.Proofs.YthliomlmhfjhnaaGreat

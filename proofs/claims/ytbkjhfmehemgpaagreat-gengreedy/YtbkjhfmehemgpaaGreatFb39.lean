/- Texts put together. -/
import Derived.Test.YtbkjhfmehemgpaaGreatFb37
import Derived.Test.YtbkjhfmehemgpaaGreatFb35
namespace Go.Proofs.YtbkjhfmehemgpaaGreat
set_option maxRecDepth 20000
set_option maxHeartbeats 16000000
open Go.ChangeShapes Go.WideShapes Go.ChangeAt Go.RowKit
set_option linter.unusedVariables false
set_option linter.unusedSimpArgs false
section
open Go.ChangeShapes Go.WideShapes Go.ChangeAt Go.RowKit Go.Sort
theorem check_no (R S d h l v u x t n:Int)(La:Option Addr)(ml Lc:Nat)(w:World)
  (k32:∀ w,Calls Tryz.prog 70 #[.int .i64 R,.int .i64 S,.agg #[.int .i64 d,.int .i64 h,.int .i64 l,.int .i64 v,.int .i64 u,.int .i64 x,.int .i64 t,.int .i64 n]] w fun e w'=>e=.returned (.bool false)∧Below w.heap.size w w') :
  Calls Tryz.prog 40 #[.agg #[.int .i64 R,.int .i64 S,.slice La ml Lc],.agg #[.int .i64 d,.int .i64 h,.int .i64 l,.int .i64 v,.int .i64 u,.int .i64 x,.int .i64 t,.int .i64 n]] w fun e w'=>e=.returned (.int .i64 20)∧Below w.heap.size w w':=by
 have hb:=bNw (bNw (Below.refl w.heap.size w) (.cells #[.int .i64 R,.int .i64 S,.slice La ml Lc] 37)) (.cells #[.int .i64 d,.int .i64 h,.int .i64 l,.int .i64 v,.int .i64 u,.int .i64 x,.int .i64 t,.int .i64 n] 23)
 have qa:Blk 37 ((w.alloc (.cells #[.int .i64 R,.int .i64 S,.slice La ml Lc] 37)).alloc (.cells #[.int .i64 d,.int .i64 h,.int .i64 l,.int .i64 v,.int .i64 u,.int .i64 x,.int .i64 t,.int .i64 n] 23)) w.heap.size #[.int .i64 R,.int .i64 S,.slice La ml Lc]:=(Blk.new 37 w _).kept (bNw (Below.refl _ _) _)
 have qc:Blk 23 ((w.alloc (.cells #[.int .i64 R,.int .i64 S,.slice La ml Lc] 37)).alloc (.cells #[.int .i64 d,.int .i64 h,.int .i64 l,.int .i64 v,.int .i64 u,.int .i64 x,.int .i64 t,.int .i64 n] 23)) (w.heap.size+1) #[.int .i64 d,.int .i64 h,.int .i64 l,.int .i64 v,.int .i64 u,.int .i64 x,.int .i64 t,.int .i64 n]:=Blk.new_at 23 (w.alloc _) _ _ (by simp)
 obtain⟨a0,a1,a2⟩:=qa.c3
 obtain⟨c0,c1,c2,c3,c4,c5,c6,c7⟩:=qc.cfg
 go_enter Tryz.func40,Tryz.ntmps40
 go_wp2_with (first|(go_at_call 70;refine (k32 _).mono ?_;rintro e W1 ⟨rfl,h1⟩;replace qa:=qa.kept h1;replace qc:=qc.kept h1;replace hb:=bTn hb h1;clear h1 a0 a1 a2 c0 c1 c2 c3 c4 c5 c6 c7;obtain⟨a0,a1,a2⟩:=qa.c3;obtain⟨c0,c1,c2,c3,c4,c5,c6,c7⟩:=qc.cfg))
 go_ret
 exact⟨rfl,hb⟩
theorem check_few (R S d h l v u x t n:Int)(La:Option Addr)(ml Lc:Nat)(w:World)(g:((ml:Int)==l)=false)
  (k32:∀ w,Calls Tryz.prog 70 #[.int .i64 R,.int .i64 S,.agg #[.int .i64 d,.int .i64 h,.int .i64 l,.int .i64 v,.int .i64 u,.int .i64 x,.int .i64 t,.int .i64 n]] w fun e w'=>e=.returned (.bool true)∧Below w.heap.size w w') :
  Calls Tryz.prog 40 #[.agg #[.int .i64 R,.int .i64 S,.slice La ml Lc],.agg #[.int .i64 d,.int .i64 h,.int .i64 l,.int .i64 v,.int .i64 u,.int .i64 x,.int .i64 t,.int .i64 n]] w fun e w'=>e=.returned (.int .i64 21)∧Below w.heap.size w w':=by
 have hb:=bNw (bNw (Below.refl w.heap.size w) (.cells #[.int .i64 R,.int .i64 S,.slice La ml Lc] 37)) (.cells #[.int .i64 d,.int .i64 h,.int .i64 l,.int .i64 v,.int .i64 u,.int .i64 x,.int .i64 t,.int .i64 n] 23)
 have qa:Blk 37 ((w.alloc (.cells #[.int .i64 R,.int .i64 S,.slice La ml Lc] 37)).alloc (.cells #[.int .i64 d,.int .i64 h,.int .i64 l,.int .i64 v,.int .i64 u,.int .i64 x,.int .i64 t,.int .i64 n] 23)) w.heap.size #[.int .i64 R,.int .i64 S,.slice La ml Lc]:=(Blk.new 37 w _).kept (bNw (Below.refl _ _) _)
 have qc:Blk 23 ((w.alloc (.cells #[.int .i64 R,.int .i64 S,.slice La ml Lc] 37)).alloc (.cells #[.int .i64 d,.int .i64 h,.int .i64 l,.int .i64 v,.int .i64 u,.int .i64 x,.int .i64 t,.int .i64 n] 23)) (w.heap.size+1) #[.int .i64 d,.int .i64 h,.int .i64 l,.int .i64 v,.int .i64 u,.int .i64 x,.int .i64 t,.int .i64 n]:=Blk.new_at 23 (w.alloc _) _ _ (by simp)
 obtain⟨a0,a1,a2⟩:=qa.c3
 obtain⟨c0,c1,c2,c3,c4,c5,c6,c7⟩:=qc.cfg
 go_enter Tryz.func40,Tryz.ntmps40
 go_wp2_with (first|(go_at_call 70;refine (k32 _).mono ?_;rintro e W1 ⟨rfl,h1⟩;replace qa:=qa.kept h1;replace qc:=qc.kept h1;replace hb:=bTn hb h1;clear h1 a0 a1 a2 c0 c1 c2 c3 c4 c5 c6 c7;obtain⟨a0,a1,a2⟩:=qa.c3;obtain⟨c0,c1,c2,c3,c4,c5,c6,c7⟩:=qc.cfg))
 go_ret
 exact⟨rfl,hb⟩
theorem check_loop (R S d h v u x t n:Int)(x0:Addr)(ml Lc:Nat)(L:SL)(Y:Nat→Nat→SL)(m:AdV)(w:World)(hM:AdAt w L Y m)(eA:L.a=some x0)(hml:m.ln=ml)(hl:ml≤1000000)(N V:Int)
  (no:∀ i,i<ml→∀ j,j<4→((Y i j).n:Int)≠N→V=21) (yes:(∀ i,i<ml→∀ j,j<4→((Y i j).n:Int)=N)→V=0)
  (k32:∀ w,Calls Tryz.prog 70 #[.int .i64 R,.int .i64 S,.agg #[.int .i64 d,.int .i64 h,.int .i64 (ml:Int),.int .i64 v,.int .i64 u,.int .i64 x,.int .i64 t,.int .i64 n]] w fun e w'=>e=.returned (.bool true)∧Below w.heap.size w w')
  (k34:∀ w,Calls Tryz.prog 72 #[.int .i64 R,.agg #[.int .i64 d,.int .i64 h,.int .i64 (ml:Int),.int .i64 v,.int .i64 u,.int .i64 x,.int .i64 t,.int .i64 n]] w fun e w'=>e=.returned (.int .i64 N)∧Below w.heap.size w w') :
  Calls Tryz.prog 40 #[.agg #[.int .i64 R,.int .i64 S,.slice (some x0) ml Lc],.agg #[.int .i64 d,.int .i64 h,.int .i64 (ml:Int),.int .i64 v,.int .i64 u,.int .i64 x,.int .i64 t,.int .i64 n]] w fun e w'=>e=.returned (.int .i64 V)∧Below w.heap.size w w':=by
 have hb:=bNw (bNw (Below.refl w.heap.size w) (.cells #[.int .i64 R,.int .i64 S,.slice (some x0) ml Lc] 37)) (.cells #[.int .i64 d,.int .i64 h,.int .i64 (ml:Int),.int .i64 v,.int .i64 u,.int .i64 x,.int .i64 t,.int .i64 n] 23)
 have qa:Blk 37 ((w.alloc (.cells #[.int .i64 R,.int .i64 S,.slice (some x0) ml Lc] 37)).alloc (.cells #[.int .i64 d,.int .i64 h,.int .i64 (ml:Int),.int .i64 v,.int .i64 u,.int .i64 x,.int .i64 t,.int .i64 n] 23)) w.heap.size #[.int .i64 R,.int .i64 S,.slice (some x0) ml Lc]:=(Blk.new 37 w _).kept (bNw (Below.refl _ _) _)
 have qc:Blk 23 ((w.alloc (.cells #[.int .i64 R,.int .i64 S,.slice (some x0) ml Lc] 37)).alloc (.cells #[.int .i64 d,.int .i64 h,.int .i64 (ml:Int),.int .i64 v,.int .i64 u,.int .i64 x,.int .i64 t,.int .i64 n] 23)) (w.heap.size+1) #[.int .i64 d,.int .i64 h,.int .i64 (ml:Int),.int .i64 v,.int .i64 u,.int .i64 x,.int .i64 t,.int .i64 n]:=Blk.new_at 23 (w.alloc _) _ _ (by simp)
 obtain⟨a0,a1,a2⟩:=qa.c3
 obtain⟨c0,c1,c2,c3,c4,c5,c6,c7⟩:=qc.cfg
 have HM:=hdn hM
 have HN:=hdn no
 have HY:=hdn yes
 have HL:=hdn hml
 have HA:=hdn eA
 clear hM no yes hml eA
 go_enter Tryz.func40,Tryz.ntmps40
 go_wp2_with (first|(go_at_call 70;refine (k32 _).mono ?_;rintro e W1 ⟨rfl,h1⟩;replace qa:=qa.kept h1;replace qc:=qc.kept h1;replace hb:=bTn hb h1;clear h1 a0 a1 a2 c0 c1 c2 c3 c4 c5 c6 c7;obtain⟨a0,a1,a2⟩:=qa.c3;obtain⟨c0,c1,c2,c3,c4,c5,c6,c7⟩:=qc.cfg))
 have HB:=hdn (And.intro hb (And.intro qa qc))
 clear hb qa qc a0 a1 a2 c0 c1 c2 c3 c4 c5 c6 c7 k32
 go_loopw [24] (fun i wr=>∃ k:Nat,k≤ml∧i=.int .i64 k∧Below w.heap.size w wr∧Blk 37 wr w.heap.size #[.int .i64 R,.int .i64 S,.slice (some x0) ml Lc]∧Blk 23 wr (w.heap.size+1) #[.int .i64 d,.int .i64 h,.int .i64 (ml:Int),.int .i64 v,.int .i64 u,.int .i64 x,.int .i64 t,.int .i64 n]∧Hid (∀ i,i<k→∀ j,j<4→((Y i j).n:Int)=N)) (fun i _=>ml-(intOf i).toNat)
 case atStart=>exact⟨0,Nat.zero_le _,rfl,HB.out.1,HB.out.2.1,HB.out.2.2,fun i hi=>absurd hi (Nat.not_lt_zero _)⟩
 case round =>
  clear HB
  obtain⟨k,hk,rfl,hb,qa,qc,good⟩:=hrel
  by_cases hlt:k<ml
  ·have hlt':(k:Int)<(ml:Int):=by omega
   obtain⟨a0,a1,a2⟩:=qa.c3
   have hc:=HM.out.cell x0 HA.out k (by rw[HL.out];exact hlt)
   obtain⟨P,eP⟩:∃ P,x0.add (k*4)=P:=⟨_,rfl⟩
   rw[eP] at hc
   have HC:=hdn hc
   clear hc
   have k33:=lists_call P
   go_wp2_with (first|(go_at_call 71;refine (k33 _).mono ?_;rintro e W2 ⟨rfl,h2⟩;replace qa:=qa.kept h2;replace qc:=qc.kept h2;replace hb:=bTn hb h2;clear h2 a0 a1 a2))
   obtain⟨i0,i1,i2,i3⟩:=index_all (.pointer (some P)) (.pointer (some ⟨P.block,P.off+1,none⟩)) (.pointer (some ⟨P.block,P.off+2,none⟩)) (.pointer (some ⟨P.block,P.off+3,none⟩))
   have ix:Hid (∀ j,j<4→∀ w:World,(Instr.index 124 (.agg #[.pointer (some P),.pointer (some ⟨P.block,P.off+1,none⟩),.pointer (some ⟨P.block,P.off+2,none⟩),.pointer (some ⟨P.block,P.off+3,none⟩)]) (.int .i64 (j:Nat))).run Tryz.prog w=.ok (.pointer (some (P.add j))) w):=fun j hj=>by
    rcases (show j=0∨j=1∨j=2∨j=3 by omega) with rfl|rfl|rfl|rfl
    ·exact i0
    ·exact i1
    ·exact i2
    ·exact i3
   clear i0 i1 i2 i3 k33 eP
   have HB:=hdn (And.intro hb (And.intro qa qc))
   clear hb qa qc
   go_loopw [32] (fun i wr=>∃ j:Nat,j≤4∧i=.int .i64 j∧Below w.heap.size w wr∧Blk 37 wr w.heap.size #[.int .i64 R,.int .i64 S,.slice (some x0) ml Lc]∧Blk 23 wr (w.heap.size+1) #[.int .i64 d,.int .i64 h,.int .i64 (ml:Int),.int .i64 v,.int .i64 u,.int .i64 x,.int .i64 t,.int .i64 n]∧Hid (∀ i,i<j→((Y k i).n:Int)=N)) (fun i _=>4-(intOf i).toNat)
   case atStart=>exact⟨0,Nat.zero_le _,rfl,HB.out.1,HB.out.2.1,HB.out.2.2,fun i hi=>absurd hi (Nat.not_lt_zero _)⟩
   case round =>
    clear HB
    obtain⟨j,hj,rfl,hb,qa,qc,goodj⟩:=hrel
    by_cases hjt:j<4
    ·have hjt':(j:Int)<4:=by omega
     have ij:=ix.out j hjt
     have hc:=HC.out j hjt
     have hc':=((hb.cell (World.block_lt_of_cell? w _ hc)).trans hc)
     obtain⟨Q,eQ⟩:∃ Q,P.add j=Q:=⟨_,rfl⟩
     rw[eQ] at ij hc'
     obtain⟨SA,SN,SC,eS⟩:∃ SA SN SC,Y k j=⟨SA,SN,SC⟩:=⟨(Y k j).a,(Y k j).n,(Y k j).c,rfl⟩
     rw[eS] at hc'
     have cq:wr.cell? Q=some (.slice SA SN SC):=hc'
     have eN:(Y k j).n=SN:=by rw[eS]
     have EN:=hdn eN
     clear hc hc' eQ eS eN
     have kn':∀ d' os,Calls Tryz.prog 72 #[.int .i64 R,.agg #[.int .i64 d,.int .i64 h,.int .i64 (ml:Int),.int .i64 v,.int .i64 u,.int .i64 x,.int .i64 t,.int .i64 n]] (grow (redrawn wr d') os) fun e w''=>e=.returned (.int .i64 N)∧∃ p:Regrown,w''=grow (redrawn wr p.d) p.os:=fun d' os =>
      Calls.regrown_of ((k34 _).mono fun e w' he=>⟨he.1,he.2⟩)
     obtain⟨a0,a1,a2⟩:=qa.c3
     obtain⟨c0,c1,c2,c3,c4,c5,c6,c7⟩:=qc.cfg
     replace cq:=cell_regrown cq
     replace a0:=cell_regrown a0
     replace c0:=cell_regrown c0
     replace c1:=cell_regrown c1
     replace c2:=cell_regrown c2
     replace c3:=cell_regrown c3
     replace c4:=cell_regrown c4
     replace c5:=cell_regrown c5
     replace c6:=cell_regrown c6
     replace c7:=cell_regrown c7
     clear a1 a2
     by_cases g1:(SN:Int)=N
     ·have g1':((SN:Int) != N)=false:=by simp[g1]
      have good':Hid (∀ i,i<j+1→((Y k i).n:Int)=N):=fun i hi=>by
       by_cases e:i=j
       ·subst e;rw[EN.out];exact g1
       ·exact goodj.out i (by omega)
      clear g1 goodj
      go_wp2
      refine wp_region_quiet_below (by kernel_rfl) (by kernel_rfl) ?_
      repeat (go_big_quiet_step (first|(go_at_call 72;exact kn' _ _)))
      refine wpQuiet_nil ?_
      intro _ hw'
      obtain⟨⟨dq,osq⟩,hw''⟩:=hw'
      subst hw''
      have hbq:=below_regrown wr dq osq
      replace qa:=qa.kept hbq
      replace qc:=qc.kept hbq
      replace hb:=bTn hb hbq
      clear hbq kn' cq a0 c0 c1 c2 c3 c4 c5 c6 c7 ij
      go_wp2
      go_roundw
      case rel=>exact⟨j+1,by omega,by go_num,hb,qa,qc,good'⟩
      case measure=>simp[intOf];omega
     ·have g1':((SN:Int) != N)=true:=by simp[g1]
      have e:=HN.out k hlt j hjt (by rw[EN.out];exact g1)
      clear g1 goodj
      subst e
      go_wp2
      refine wp_region_quiet_below (by kernel_rfl) (by kernel_rfl) ?_
      repeat (go_big_quiet_step (first|(go_at_call 72;exact kn' _ _)))
      refine wpQuiet_nil ?_
      intro _ hw'
      obtain⟨⟨dq,osq⟩,hw''⟩:=hw'
      subst hw''
      have hbq:=below_regrown wr dq osq
      replace hb:=bTn hb hbq
      clear hbq kn' cq a0 c0 c1 c2 c3 c4 c5 c6 c7 ij
      go_wp2
      go_ret
      exact⟨rfl,hb⟩
    ·have e:j=4:=by omega
     subst e
     have good':Hid (∀ i,i<k+1→∀ j,j<4→((Y i j).n:Int)=N):=fun i hi j hj=>by
      by_cases e:i=k
      ·subst e;exact goodj.out j hj
      ·exact good.out i (by omega) j hj
     clear goodj
     go_wp2
     go_roundw
     case rel=>exact⟨k+1,by omega,by go_num,hb,qa,qc,good'⟩
     case measure=>simp[intOf];omega
  ·have e:k=ml:=by omega
   subst e
   have e:=HY.out good.out
   subst e
   go_wp2
   go_ret
   exact⟨rfl,hb⟩
theorem rightA_of {R S d h l v u x t n:Int}(ok:okA R S d h l v u x t n=true):RightA R S d l:=by
 unfold okA okB headsB at ok
 simp only[Bool.and_eq_true,decide_eq_true_eq] at ok
 constructor<;>omega
theorem grcheck_call (R S d h l v u x t n:Int)(L:SL)(Y:Nat→Nat→SL)(m:AdV)(w:World)(hM:AdAt w L Y m) :
  Calls Tryz.prog 40 #[.agg #[.int .i64 R,.int .i64 S,.slice L.a L.n L.c],.agg #[.int .i64 d,.int .i64 h,.int .i64 l,.int .i64 v,.int .i64 u,.int .i64 x,.int .i64 t,.int .i64 n]] w fun e w'=>e=.returned (.int .i64 (checkA R S d h l v u x t n m))∧Below w.heap.size w w':=by
 have k32:=inRange_call R S d h l v u x t n
 unfold checkA
 cases ok:okA R S d h l v u x t n with
 | false =>
  rw[if_neg (by simp)]
  simp only[ok] at k32
  exact check_no R S d h l v u x t n L.a L.n L.c w k32
 | true =>
  rw[if_pos rfl]
  simp only[ok] at k32
  have r:=rightA_of ok
  have r0:=r.r0
  have r1:=r.r1
  have d0:=r.d0
  have d1:=r.d1
  have l0:=r.l0
  have l1:=r.l1
  by_cases e:(m.ln:Int)=l
  ·have hn:L.n=m.ln:=hM.len
   obtain⟨x0,ex⟩:=hM.some_ (by omega)
   have hp:0≤R*d:=Int.mul_nonneg (by omega) (by omega)
   have hp':R*d≤4*8:=Int.mul_le_mul r1 d1 (by omega) (by omega)
   have k34:=listSize_call R d h l v u x t n (R*d) rfl (by omega) (by omega)
   have hlen:∀ i,i<m.ln→∀ j,j<4→(Y i j).n=(m.f i j).length:=fun i hi j hj=>(hM.lay i hi j hj).reads.len.symm
   have key:=fun V no yes=>check_loop R S d h v u x t n x0 L.n L.c L Y m w hM ex hn.symm (by omega) (R*d) V no yes
   rw[show ((L.n:Nat):Int)=l by omega] at key
   rw[hn] at key ⊢
   rw[ex]
   refine key _ (fun i hi j hj hne=>?_) (fun hall=>?_) k32 k34
   ·rw[if_neg]
    rintro⟨_,hq⟩
    exact hne (by rw[hlen i hi j hj];exact lensA_iff.1 hq i hi j hj)
   ·rw[if_pos ⟨e,lensA_iff.2 fun i hi j hj=>by rw[←hlen i hi j hj];exact hall i hi j hj⟩]
  ·rw[if_neg (fun k=>e k.1)]
   exact check_few R S d h l v u x t n L.a L.n L.c w (by rw[hM.len];simp[e]) k32
end
end Go.Proofs.YtbkjhfmehemgpaaGreat

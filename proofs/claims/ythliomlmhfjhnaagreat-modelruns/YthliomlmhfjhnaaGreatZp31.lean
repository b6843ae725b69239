/- Texts put together. -/
import Derived.Test.YthliomlmhfjhnaaGreatZp25
import Derived.Laws.StructEq
namespace Go.Proofs.YthliomlmhfjhnaaGreat
set_option maxRecDepth 20000
set_option maxHeartbeats 16000000
open Go.ChangeShapes Go.WideShapes Go.ChangeAt Go.RowKit
set_option linter.unusedVariables false
set_option linter.unusedSimpArgs false
def P0 (l:Nat)(D VD:Nat)(m:ModV):Prop:=m.ln=l∧m.e.length=VD∧m.nm.length=D∧m.o.length=VD
def Ly (D DD XD ne:Nat)(m:ModV)(i:Nat):Prop:=(∀ r,r<7→(m.f i r).length=preC D DD XD r)∧m.un i=ne∧m.dn i=ne
def Nt (UD:Nat)(m:ModV)(i j:Nat):Prop:=(m.u i j).length=UD∧(m.d i j).length=UD
def AllR (l D DD XD UD VD ne:Nat)(m:ModV):Prop:=P0 l D VD m∧∀ i,i<m.ln→Ly D DD XD ne m i∧∀ j,j<ne→Nt UD m i j
theorem Qls {d h l v u x t n:Int}(ok:okB d h l v u x t n=true)(m:ModV):(AllR l.toNat d.toNat (d*d).toNat (x*d).toNat (u*d).toNat (v*d).toNat (netsN x) m→Qaf d h l v u x t n m=0)∧(¬AllR l.toNat d.toNat (d*d).toNat (x*d).toNat (u*d).toNat (v*d).toNat (netsN x) m→Qaf d h l v u x t n m=21):=by
 have dm:=Qb9 ok
 have to0:AllR l.toNat d.toNat (d*d).toNat (x*d).toNat (u*d).toNat (v*d).toNat (netsN x) m→Qaf d h l v u x t n m=0:=fun ⟨⟨h1,h2,h3,h4⟩,hall⟩=>by
  have fr:QbQ l x m=true:=decide_eq_true ⟨by rw[h1];exact dm.el.symm,fun i hi=>by
   obtain⟨⟨_,u1,u2⟩,_⟩:=hall i hi
   rw[u1,u2]
   exact⟨dm.en.symm,dm.en.symm⟩⟩
  unfold Qaf
  rw[ok,fr]
  show QbP _ _ _=0
  refine Qlc _ _ _ fun k hk=>?_
  unfold allT at hk
  unfold Qco
  rcases Qfo l.toNat (netsN x) k hk with rfl|⟨i,r,hi,hr,rfl⟩|⟨i,j,hi,hj,rfl|rfl⟩|rfl|rfl
  ·exact h2
  ·rw[Qbq i r hi hr,QaG m _ i r (by omega) hr]
   exact (hall i (by omega)).1.1 r hr
  ·rw[Qcy i j hi hj,Qd5 m _ i j (by omega) hj]
   exact ((hall i (by omega)).2 j hj).1
  ·rw[Qbr i j hi hj,Qcv m _ i j (by omega) hj]
   exact ((hall i (by omega)).2 j hj).2
  ·rw[Qbp]
   rw[←h1,Qcu]
   exact h3
  ·rw[QbW]
   rw[←h1,Qc3]
   exact h4
 refine⟨to0,fun hn=>?_⟩
 have z21:∀ (S:Nat→List Int) (cnt:Nat→Nat) T,QbP S cnt T=0∨QbP S cnt T=21:=fun S cnt T=>by
  induction T with
  | zero=>exact .inl rfl
  | succ T ih =>
   show (if _ then _ else _)=_∨(if _ then _ else _)=_
   split
   ·exact ih
   ·exact .inr rfl
 have c:Qaf d h l v u x t n m=0∨Qaf d h l v u x t n m=21:=by
  unfold Qaf
  rw[ok]
  show (if QbQ l x m=true then _ else _)=_∨(if QbQ l x m=true then _ else _)=_
  split
  ·exact z21 _ _ _
  ·exact .inr rfl
 rcases c with c|c
 ·exfalso
  apply hn
  obtain⟨_,hln,hun,hlen⟩:=checked c
  unfold Qco allT at hlen
  have ip:∀ i r,i<l.toNat→r<pl (netsN x)→1+i*pl (netsN x)+r<1+l.toNat*pl (netsN x)+2:=fun i r hi hr=>by
   have:(i+1)*pl (netsN x)≤l.toNat*pl (netsN x):=Nat.mul_le_mul_right _ (by omega)
   rw[Nat.add_mul] at this
   omega
  refine⟨⟨hln,hlen 0 (by omega),?_,?_⟩,fun i hi=>⟨⟨fun r hr=>?_,hun i hi⟩,fun j hj=>⟨?_,?_⟩⟩⟩
  ·have:=hlen (1+l.toNat*pl (netsN x)) (by omega)
   rwa [Qbp,←hln,Qcu] at this
  ·have:=hlen (1+l.toNat*pl (netsN x)+1) (by omega)
   rwa [QbW,←hln,Qc3] at this
  ·have:=hlen _ (ip i r (by omega) (by unfold pl;omega))
   rwa [Qbq i r (by omega) hr,QaG m _ i r hi hr] at this
  ·have q:=ip i (7+2*j) (by omega) (by unfold pl;omega)
   have:=hlen (1+i*pl (netsN x)+7+2*j) (by omega)
   rwa [Qcy i j (by omega) hj,Qd5 m _ i j hi hj] at this
  ·have q:=ip i (7+2*j+1) (by omega) (by unfold pl;omega)
   have:=hlen (1+i*pl (netsN x)+7+2*j+1) (by omega)
   rwa [Qbr i j (by omega) hj,Qcv m _ i j hi hj] at this
 ·exact c
theorem Qh8 (d h l v u x t n:Int)(E L N O:SL)(ok:okB d h l v u x t n=false)(w:World) :
  Calls Tryz.prog 50 #[.agg #[I4 d,I4 h,I4 l,I4 v,I4 u,I4 x,I4 t,I4 n,E.w,L.w,N.w,O.w]] w fun e w'=>e=.returned (I4 20)∧Bw w w':=by
 have k10:=Qat d h l v u x t n
 simp only[ok] at k10
 clear ok
 have hb:=bNw (bNw (bS w) (.cells #[I4 d,I4 h,I4 l,I4 v,I4 u,I4 x,I4 t,I4 n,E.w,L.w,N.w,O.w] 27)) (.cells (c8 d h l v u x t n) 23)
 have qb:=Blk.new 27 w #[I4 d,I4 h,I4 l,I4 v,I4 u,I4 x,I4 t,I4 n,E.w,L.w,N.w,O.w]
 obtain⟨a0,a1,a2,a3,a4,a5,a6,a7,a8,a9,a10,a11⟩:=qb.c12
 go_enter Tryz.func50,Tryz.ntmps50
 go_wp2_with (first
  | (go_at_call 36;refine (k10 _).mono ?_;rintro e W1 ⟨rfl,h1⟩;replace hb:=bTn hb h1;clear h1))
 go_ret
 exact⟨rfl,hb⟩
end Go.Proofs.YthliomlmhfjhnaaGreat

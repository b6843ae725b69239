/- Texts put together. -/
import Derived.Test.YthliomlmhfjhnaaGreatZp30
import Derived.Test.YthliomlmhfjhnaaGreatZp27
import Derived.Test.YthliomlmhfjhnaaGreatZp16
import Derived.Test.YthliomlmhfjhnaaGreatZp31
import Derived.Test.YthliomlmhfjhnaaGreatZp26
namespace Go.Proofs.YthliomlmhfjhnaaGreat
set_option maxRecDepth 20000
set_option maxHeartbeats 16000000
open Go.ChangeShapes Go.WideShapes Go.ChangeAt Go.RowKit
set_option linter.unusedVariables false
set_option linter.unusedSimpArgs false
structure Md where
 d:Int
 h:Int
 l:Int
 v:Int
 u:Int
 x:Int
 t:Int
 n:Int
 m:ModV
 r:Int
 s:Int
 a:AdV
abbrev Md.ag (M:Md)(E L N O:SL):Value:=.agg #[I4 M.d,I4 M.h,I4 M.l,I4 M.v,I4 M.u,I4 M.x,I4 M.t,I4 M.n,E.w,L.w,N.w,O.w]
abbrev Md.ad (M:Md)(La:SL):Value:=.agg #[I4 M.r,I4 M.s,La.w]
abbrev Md.cc (M:Md):Array Value:=#[I4 M.d,I4 M.h,I4 M.l,I4 M.v,I4 M.u,I4 M.x,I4 M.t,I4 M.n]
abbrev Md.mc (M:Md)(E L N O:SL):Array Value:=#[I4 M.d,I4 M.h,I4 M.l,I4 M.v,I4 M.u,I4 M.x,I4 M.t,I4 M.n,E.w,L.w,N.w,O.w]
abbrev Md.mx (M:Md)(E:SL)(x:Addr)(L N O:SL):Array Value:=#[I4 M.d,I4 M.h,I4 M.l,I4 M.v,I4 M.u,I4 M.x,I4 M.t,I4 M.n,E.w,.slice (some x) M.m.ln L.c,N.w,O.w]
abbrev Md.rc (M:Md)(La:SL):Array Value:=#[I4 M.r,I4 M.s,La.w]
def Md.D (M:Md):Nat:=M.d.toNat
def Md.H (M:Md):Nat:=M.h.toNat
def Qc8 (xs ys:List Int):List Int:=(List.range xs.length).map (QcS xs ys)
def Qbi (M:Md)(i j:Nat)(y hh:List Int):List Int:=if M.r=0 then y else Qc8 y (QdF (M.a.f i j) (M.a.f i (j+1)) M.r M.s hh)
def nrmL (M:Md)(i:Nat)(x:List Int):List Int:=rmsZ x (M.m.f i 0) M.D
def qL (M:Md)(p:Int)(i:Nat)(x:List Int):List Int:=headsL (Qbi M i 0 (matL (M.m.f i 1) (nrmL M i x)) (nrmL M i x)) p (M.D/M.H) M.H
def kL (M:Md)(p:Int)(i:Nat)(x:List Int):List Int:=headsL (matL (M.m.f i 2) (nrmL M i x)) p (M.D/M.H) M.H
def vL (M:Md)(i:Nat)(x:List Int):List Int:=Qbi M i 2 (matL (M.m.f i 3) (nrmL M i x)) (nrmL M i x)
def Qa1 (P:Nat→List Int)(c f d:Nat)(last:List Int)(r:Nat):List Int:=if r<c then ((P r).drop f).take d else last
def QeU (M:Md)(p:Int)(P:Nat→List Int)(c i:Nat)(x:List Int):Nat→List Int:=Qa1 P c (2*i*M.D) M.D (kL M p i x)
def Qej (M:Md)(P:Nat→List Int)(c i:Nat)(x:List Int):Nat→List Int:=Qa1 P c (2*i*M.D+M.D) M.D (vL M i x)
def oL (M:Md)(p:Int)(P:Nat→List Int)(c i:Nat)(x:List Int):List Int:=allL (qL M p i x) (QeU M p P c i x) (Qej M P c i x) (M.D/M.H) (c+1) M.H
def w1L (M:Md)(i:Nat)(x o:List Int):List Int:=Qc8 x (matL (M.m.f i 4) o)
def wkL (M:Md)(i:Nat)(x o:List Int):List Int:=Qc8 (w1L M i x o) (mixL (M.m.f i 6) (M.m.un i) (M.m.u i) (M.m.d i) M.t (rmsZ (w1L M i x o) (M.m.f i 5) M.D))
def embL (M:Md)(tok:Nat):List Int:=(List.range M.D).map fun j=>M.m.e.getD (tok*M.D+j) 0*1024
def stX (M:Md)(p:Int)(P:Nat→List Int)(c tok:Nat):Nat→List Int
 | 0=>embL M tok
 | i+1=>wkL M i (stX M p P c tok i) (oL M p P c i (stX M p P c tok i))
def stR (M:Md)(p:Int)(P:Nat→List Int)(c tok:Nat):Nat→List Int
 | 0=>[]
 | i+1=>stR M p P c tok i++(kL M p i (stX M p P c tok i)++vL M i (stX M p P c tok i))
def rowL (M:Md)(p:Int)(P:Nat→List Int)(c tok:Nat):List Int:=stR M p P c tok M.m.ln
def outL (M:Md)(p:Int)(P:Nat→List Int)(c tok:Nat):List Int:=rmsZ (stX M p P c tok M.m.ln) M.m.nm M.D
structure MdOk (M:Md):Prop where
 ok:okB M.d M.h M.l M.v M.u M.x M.t M.n=true
 ck:Qaf M.d M.h M.l M.v M.u M.x M.t M.n M.m=0
 ad:M.r≠0→QbB M.r M.s M.d M.h M.l M.v M.u M.x M.t M.n M.a=0
structure Qaq (M:Md):Prop where
 eD:M.d=(M.D:Int)
 d0:2≤M.D
 d1:M.D≤8
 eH:M.h=(M.H:Int)
 h0:1≤M.H
 h1:M.H≤8
 dh:M.D%M.H=0
 ev:M.D/M.H%2=0
 el:M.l=(M.m.ln:Int)
 l0:1≤M.m.ln
 l1:M.m.ln≤2
 v0:2≤M.v
 v1:M.v≤16
 n0:0≤M.n
 n1:M.n≤16
 e:(M.m.e.length:Int)=M.v*M.D
 nm:M.m.nm.length=M.D
 o:(M.m.o.length:Int)=M.v*M.D
 f0:∀ i,i<M.m.ln→(M.m.f i 0).length=M.D
 fq:∀ i,i<M.m.ln→∀ j,1≤j→j≤4→(M.m.f i j).length=M.D*M.D
 f5:∀ i,i<M.m.ln→(M.m.f i 5).length=M.D
 f6:∀ i,i<M.m.ln→((M.m.f i 6).length:Int)=M.x*M.D
 un:∀ i,i<M.m.ln→M.m.un i=netsN M.x
 dn:∀ i,i<M.m.ln→M.m.dn i=netsN M.x
 u:∀ i,i<M.m.ln→∀ j,j<netsN M.x→((M.m.u i j).length:Int)=M.u*M.D
 d:∀ i,i<M.m.ln→∀ j,j<netsN M.x→((M.m.d i j).length:Int)=M.u*M.D
 u0:1≤M.u
 u1:M.u≤8
 xt:(M.x=0∧M.t=0)∨(2≤M.x∧M.x≤4∧1≤M.t∧M.t≤M.x)
theorem MdOk.fit {M:Md}(h:MdOk M):Qaq M:=by
 have r:=Qbk h.ok
 obtain⟨good,bad⟩:=Qls h.ok M.m
 have all:AllR M.l.toNat M.d.toNat (M.d*M.d).toNat (M.x*M.d).toNat (M.u*M.d).toNat (M.v*M.d).toNat (netsN M.x) M.m:=by
  rcases Classical.em (AllR M.l.toNat M.d.toNat (M.d*M.d).toNat (M.x*M.d).toNat (M.u*M.d).toNat (M.v*M.d).toNat (netsN M.x) M.m) with a|a
  ·exact a
  ·have:=bad a
   rw[h.ck] at this
   cases this
 obtain⟨⟨a1,a2,a3,a4⟩,lay⟩:=all
 have hd0:=r.d0;have hd1:=r.d1;have l0:=r.l0;have l1:=r.l1;have v0:=r.v0;have v1:=r.v1;have u0:=r.u0;have u1:=r.u1;have x0:=r.x0;have x1:=r.x1;have h0:=r.h0;have h1:=r.h1
 have eD:M.d=(M.D:Int):=by unfold Md.D;omega
 have eH:M.h=(M.H:Int):=by unfold Md.H;omega
 have okk:=h.ok
 unfold okB QbY Qak at okk
 simp only[Bool.and_eq_true,decide_eq_true_eq] at okk
 obtain⟨⟨b1,b2,b3,b4,b5⟩,b6,⟨b7,b8⟩,⟨b9,b10⟩,⟨b11,b12⟩,b13,b14⟩:=okk
 have md:M.D%M.H=0:=by
  have e:((M.D%M.H:Nat):Int)=0:=by rw[Int.natCast_emod,←eD,←eH];exact b4
  omega
 have mev:M.D/M.H%2=0:=by
  have e:((M.D/M.H%2:Nat):Int)=0:=by rw[Int.natCast_emod,Int.natCast_ediv,←eD,←eH];exact b5
  omega
 have p1:0≤M.v*M.d:=Int.mul_nonneg (by omega) (by omega)
 have p2:0≤M.x*M.d:=Int.mul_nonneg (by omega) (by omega)
 have p3:0≤M.u*M.d:=Int.mul_nonneg (by omega) (by omega)
 have p4:(M.d*M.d).toNat=M.D*M.D:=by
  have q:M.d*M.d=((M.D*M.D:Nat):Int):=by rw[Int.natCast_mul,←eD]
  rw[q]
  exact Int.toNat_natCast _
 refine⟨eD,by omega,by omega,eH,by omega,by omega,md,mev,by omega,by omega,by omega,v0,v1,by omega,by omega,?_,a3,?_,?_,?_,?_,?_,?_,?_,?_,?_,u0,u1,b6⟩
 ·rw[a2,←eD];omega
 ·rw[a4,←eD];omega
 ·intro i hi;exact ((lay i hi).1.1 0 (by omega))
 ·intro i hi j hj hj'
  rw[(lay i hi).1.1 j (by omega)]
  unfold preC
  rw[if_neg (by omega),if_neg (by omega),p4]
 ·intro i hi;exact ((lay i hi).1.1 5 (by omega))
 ·intro i hi
  rw[(lay i hi).1.1 6 (by omega)]
  show ((M.x*M.d).toNat:Int)=_
  rw[←eD];omega
 ·intro i hi;exact (lay i hi).1.2.1
 ·intro i hi;exact (lay i hi).1.2.2
 ·intro i hi j hj;rw[((lay i hi).2 j hj).1,←eD];omega
 ·intro i hi j hj;rw[((lay i hi).2 j hj).2,←eD];omega
structure QcX (M:Md) (R:Nat):Prop where
 er:M.r=(R:Int)
 r0:1≤R
 r1:R≤4
 s0:0≤M.s
 s1:M.s≤8
 ln:M.a.ln=M.m.ln
 f:∀ i,i<M.m.ln→∀ j,j<4→(M.a.f i j).length=R*M.D
theorem MdOk.adapter {M:Md}(h:MdOk M)(hr:M.r≠0):∃ R,QcX M R:=by
 have F:=h.fit
 have c:=h.ad hr
 unfold QbB at c
 by_cases o:okA M.r M.s M.d M.h M.l M.v M.u M.x M.t M.n=true
 ·rw[if_pos o] at c
  by_cases q:(M.a.ln:Int)=M.l∧Qmo M.r M.d M.a=true
  ·obtain⟨q1,q2⟩:=q
   have q3:=QbX.1 q2
   unfold okA at o
   simp only[Bool.and_eq_true,decide_eq_true_eq] at o
   obtain⟨-,o1,o2,o3,o4⟩:=o
   have el:=F.el
   refine⟨M.r.toNat,by omega,by omega,by omega,o3,o4,by omega,fun i hi j hj=>?_⟩
   have:=q3 i (by omega) j hj
   rw[F.eD,show M.r=(M.r.toNat:Int) by omega,←Int.natCast_mul] at this
   exact Int.ofNat.inj this
  ·rw[if_neg q] at c
   cases c
 ·rw[if_neg o] at c
  cases c
theorem Qf7 {n d:Nat}{r:Int}(hd:0<d)(h:(n:Int)=r*d)(hr:0≤r):fitB n r d=true:=by
 obtain⟨R,rfl⟩:∃ R:Nat,r=R:=⟨r.toNat,by omega⟩
 have e:n=R*d:=by rw[←Int.natCast_mul] at h;exact Int.ofNat.inj h
 subst e
 exact decide_eq_true ⟨hd,Nat.mul_mod_left _ _,by rw[Nat.mul_div_cancel _ hd]⟩
theorem QgS (xs ys:List Int):(Qc8 xs ys).length=xs.length:=by simp[Qc8]
theorem QeC (xs ws:List Int)(n:Nat):(rmsZ xs ws n).length=n:=by simp[rmsZ]
theorem Qie (M:Md)(i:Nat)(x:List Int):(nrmL M i x).length=M.D:=QeC _ _ _
theorem Qf6 (M:Md)(i j:Nat)(y hh:List Int):(Qbi M i j y hh).length=y.length:=by
 unfold Qbi
 split
 ·rfl
 ·exact QgS _ _
theorem Qof {M:Md}(F:Qaq M):M.H*(M.D/M.H)=M.D:=by
 have:=F.dh
 rw[Nat.mul_comm]
 exact Nat.div_mul_cancel (Nat.dvd_of_mod_eq_zero this)
theorem Qjx {M:Md}(F:Qaq M){i:Nat}(hi:i<M.m.ln){j:Nat}(h1:1≤j)(h4:j≤4){x:List Int}(hx:x.length=M.D):(matL (M.m.f i j) x).length=M.D:=by
 have:=F.d0
 rw[Qa7,F.fq i hi j h1 h4,hx,Nat.mul_div_cancel _ (by omega)]
theorem QeV {M:Md}(F:Qaq M)(p:Int)(i:Nat)(x:List Int):(kL M p i x).length=M.D:=by
 unfold kL
 rw[Qa2,Qof F]
theorem Qek {M:Md}(F:Qaq M){i:Nat}(hi:i<M.m.ln)(x:List Int):(vL M i x).length=M.D:=by
 unfold vL
 rw[Qf6,Qjx F hi (by omega) (by omega) (Qie _ _ _)]
theorem Qe0 (M:Md)(tok:Nat):(embL M tok).length=M.D:=by simp[embL]
theorem Qdq {M:Md}(F:Qaq M)(p:Int)(P:Nat→List Int)(c tok k:Nat)(hk:k≤M.m.ln):(stR M p P c tok k).length=2*k*M.D:=by
 induction k with
 | zero=>simp[stR]
 | succ k ih =>
  rw[stR,List.length_append,List.length_append,ih (by omega),QeV F,Qek F (by omega),show 2*(k+1)=2*k+2 by omega,Nat.add_mul]
  omega
theorem QiQ {M:Md}(F:Qaq M){i:Nat}(hi:i<M.m.ln){xs:List Int}(hx:xs.length=M.D):mixE (M.m.f i 6) (M.m.un i) (M.m.dn i) (M.m.u i) (M.m.d i) M.u M.t xs=0:=by
 have d0:=F.d0
 have u0:=F.u0
 have hn:netsN M.x=(max M.x 1).toNat:=rfl
 have one:∀ j,j<netsN M.x→oneB (M.m.u i j) (M.m.d i j) M.u xs=true:=fun j hj=>by
  have h1:=F.u i hi j hj
  have h2:=F.d i hi j hj
  have f1:fitB (M.m.u i j).length M.u xs.length=true:=by rw[hx];exact Qf7 (by omega) h1 (by omega)
  obtain⟨U,hU⟩:∃ U:Nat,M.u=U:=⟨M.u.toNat,by omega⟩
  have e1:(M.m.u i j).length=U*M.D:=by rw[hU,←Int.natCast_mul] at h1;exact Int.ofNat.inj h1
  have e2:(hidL (M.m.u i j) xs).length=U:=by rw[Qb8,hx,e1,Nat.mul_div_cancel _ (by omega)]
  have f2:fitB (M.m.d i j).length (xs.length:Int) (hidL (M.m.u i j) xs).length=true:=by
   rw[e2,hx]
   refine Qf7 (by omega) ?_ (by omega)
   rw[h2,hU,Int.mul_comm]
  unfold oneB
  rw[f1,f2]
  rfl
 unfold mixE
 rw[F.un i hi,F.dn i hi,if_neg (by rcases F.xt with⟨a,b⟩|⟨a,b,c,e⟩<;>omega)]
 rcases F.xt with⟨a,b⟩|⟨a,b,c,e⟩
 ·rw[if_pos (by omega),if_pos (one 0 (by omega))]
 ·rw[if_neg (by omega)]
  have en:((netsN M.x:Nat):Int)=M.x:=by omega
  have rb:Qbh (M.m.f i 6) (netsN M.x) M.t xs=true:=by
   unfold Qbh
   rw[decide_eq_true c,decide_eq_true (by omega),Bool.true_and,Bool.true_and,en,hx]
   exact Qf7 (by omega) (F.f6 i hi) (by omega)
  rw[if_neg (by rw[rb];decide),if_pos]
  unfold QhR
  refine List.all_eq_true.2 fun j hj=>?_
  have:=QgT rb (j:=j) (by simpa using hj)
  exact one _ (by omega)
theorem QlE {M:Md}(F:Qaq M){R:Nat}(A:QcX M R){i:Nat}(hi:i<M.m.ln){j:Nat}(hj:j<3){xs:List Int}(hx:xs.length=M.D):Qdl (M.a.f i j) (M.a.f i (j+1)) M.r xs:=by
 have d0:=F.d0
 have r0:=A.r0
 have e1:=A.f i hi j (by omega)
 have e2:=A.f i hi (j+1) (by omega)
 have q:(M.a.f i j).length/xs.length=R:=by rw[e1,hx,Nat.mul_div_cancel _ (by omega)]
 refine⟨?_,?_⟩
 ·rw[hx,e1,A.er]
  exact⟨by omega,Nat.mul_mod_left _ _,by rw[Nat.mul_div_cancel _ (by omega)]⟩
 ·rw[q,e2,hx]
  exact⟨by omega,Nat.mul_mod_right _ _,by rw[Nat.mul_div_cancel_left _ (by omega)]⟩
def In32 (z:Int):Prop:=-2147483648≤z∧z≤2147483647
theorem Qf3 (z:Int):In32 (cZ z):=cZb z
theorem Qmt (xs ys:List Int):∀ z∈Qc8 xs ys,In32 z:=fun z hz=>by
 obtain⟨y,_,rfl⟩:=List.mem_map.1 hz
 exact Qf3 _
theorem Qnm (ws xs:List Int):∀ z∈matL ws xs,In32 z:=fun z hz=>by
 obtain⟨y,_,rfl⟩:=List.mem_map.1 hz
 exact Qf3 _
theorem Qms (xs:List Int)(p:Int)(n:Nat):∀ z∈QcH xs p n,In32 z:=fun z hz=>by
 obtain⟨y,_,rfl⟩:=List.mem_map.1 hz
 unfold Qch
 split<;>exact Qf3 _
theorem Qlh (xs:List Int)(p:Int)(d m:Nat):∀ z∈headsL xs p d m,In32 z:=by
 induction m with
 | zero=>intro z hz;simp[headsL] at hz
 | succ m ih =>
  intro z hz
  rw[headsL,List.mem_append] at hz
  rcases hz with h|h
  ·exact ih z h
  ·exact Qms _ _ _ z h
theorem Qor (M:Md)(i:Nat)(x:List Int):∀ z∈vL M i x,In32 z:=by
 unfold vL Qbi
 split
 ·exact Qnm _ _
 ·exact Qmt _ _
theorem QmR (M:Md)(p:Int)(P:Nat→List Int)(c tok k:Nat):∀ z∈stR M p P c tok k,In32 z:=by
 induction k with
 | zero=>intro z hz;simp[stR] at hz
 | succ k ih =>
  intro z hz
  rw[stR,List.mem_append,List.mem_append] at hz
  rcases hz with h|h|h
  ·exact ih z h
  ·exact Qlh _ _ _ _ z h
  ·exact Qor _ _ _ z h
theorem In32.wf {z:Int}(h:In32 z):(Lit.int .i64 z).wf=true:=WalkArith.wf_i64 ⟨by have:=h.1;omega,by have:=h.2;omega⟩
theorem QeL {P P':Nat→List Int}{c f d:Nat}{last last':List Int}(h:∀ r,r<c→P r=P' r)(hl:last=last'):Qa1 P c f d last=Qa1 P' c f d last':=by
 funext r
 unfold Qa1
 by_cases hr:r<c
 ·rw[if_pos hr,if_pos hr,h r hr]
 ·rw[if_neg hr,if_neg hr,hl]
theorem Qme (M:Md)(p:Int){P P':Nat→List Int}{c:Nat}(h:∀ r,r<c→P r=P' r)(i:Nat)(x:List Int):oL M p P c i x=oL M p P' c i x:=by
 unfold oL QeU Qej
 rw[QeL h rfl,QeL h rfl]
theorem Qgk (M:Md)(p:Int){P P':Nat→List Int}{c:Nat}(h:∀ r,r<c→P r=P' r)(tok k:Nat):stX M p P c tok k=stX M p P' c tok k:=by
 induction k with
 | zero=>rfl
 | succ k ih=>rw[stX,stX,ih,Qme M p h]
theorem Qkl (M:Md)(p:Int){P P':Nat→List Int}{c:Nat}(h:∀ r,r<c→P r=P' r)(tok k:Nat):stR M p P c tok k=stR M p P' c tok k:=by
 induction k with
 | zero=>rfl
 | succ k ih=>rw[stR,stR,ih,Qgk M p h]
theorem Qja (M:Md)(p:Int){P P':Nat→List Int}{c:Nat}(h:∀ r,r<c→P r=P' r)(tok:Nat):rowL M p P c tok=rowL M p P' c tok:=Qkl M p h tok _
theorem Qjq (M:Md)(p:Int){P P':Nat→List Int}{c:Nat}(h:∀ r,r<c→P r=P' r)(tok:Nat):outL M p P c tok=outL M p P' c tok:=by unfold outL;rw[Qgk M p h]
def saw (M:Md)(k:Nat):Nat:=(seeZ k M.n).toNat
theorem Qfh (M:Md)(k:Nat):saw M k≤k:=by
 unfold saw seeZ
 split
 ·omega
 ·split<;>omega
theorem Qdr (M:Md)(k:Nat):seeZ k M.n=(saw M k:Int):=by
 unfold saw seeZ
 split
 ·rfl
 ·split
  ·rfl
  ·omega
def runF (M:Md)(T:Nat→Nat):Nat→Nat→List Int × List Int
 | 0,_=>([],[])
 | k+1,j=>if j<k then runF M T k j else (rowL M k (fun r=>(runF M T k (saw M k+r)).1) (k-saw M k) (T k),outL M k (fun r=>(runF M T k (saw M k+r)).1) (k-saw M k) (T k))
def rowF (M:Md)(T:Nat→Nat)(j:Nat):List Int:=(runF M T (j+1) j).1
def outF (M:Md)(T:Nat→Nat)(j:Nat):List Int:=(runF M T (j+1) j).2
def QnS (M:Md)(T:Nat→Nat)(k r:Nat):List Int:=rowF M T (saw M k+r)
theorem QkC (M:Md)(T:Nat→Nat)(k j:Nat)(h:j<k):runF M T k j=runF M T (j+1) j:=by
 induction k with
 | zero=>omega
 | succ k ih =>
  by_cases e:j=k
  ·subst e;rfl
  ·rw[runF,if_pos (by omega)]
   exact ih (by omega)
theorem QeA (M:Md)(T:Nat→Nat)(k:Nat):rowF M T k=rowL M k (QnS M T k) (k-saw M k) (T k):=by
 unfold rowF
 rw[runF,if_neg (by omega)]
 exact Qja M k (fun r hr=>by rw[QkC M T k _ (by omega)];rfl) _
theorem QeM (M:Md)(T:Nat→Nat)(k:Nat):outF M T k=outL M k (QnS M T k) (k-saw M k) (T k):=by
 unfold outF
 rw[runF,if_neg (by omega)]
 exact Qjq M k (fun r hr=>by rw[QkC M T k _ (by omega)];rfl) _
theorem QaK {M:Md}(F:Qaq M)(T:Nat→Nat)(k:Nat):(rowF M T k).length=2*M.m.ln*M.D:=by
 rw[QeA]
 exact Qdq F _ _ _ _ _ nL
theorem Qb4 (M:Md)(T:Nat→Nat)(k:Nat):(outF M T k).length=M.D:=by
 rw[QeM]
 exact QeC _ _ _
def tokF (ts:List Int)(k:Nat):Nat:=(ts.getD k 0).toNat
def tokB (M:Md)(ts:List Int)(k:Nat):Bool:=decide (0≤ts.getD k 0) && decide (ts.getD k 0<M.v)
def runB (M:Md)(ts:List Int)(n:Nat):Bool:=decide (n≤24) && (List.range n).all (tokB M ts)
theorem QiJ {M:Md}{ts:List Int}{n:Nat}(h:runB M ts n=true):n≤24∧∀ k,k<n→0≤ts.getD k 0∧ts.getD k 0<M.v:=by
 unfold runB at h
 rw[Bool.and_eq_true,decide_eq_true_eq,List.all_eq_true] at h
 refine⟨h.1,fun k hk=>?_⟩
 have:=h.2 k (List.mem_range.2 hk)
 unfold tokB at this
 simpa [Bool.and_eq_true] using this
theorem QkD {M:Md}{ts:List Int}{n:Nat}(h:runB M ts n=false):∃ J,J<n∧J≤24∧(∀ k,k<J→0≤ts.getD k 0∧ts.getD k 0<M.v)∧(J=24∨¬(0≤ts.getD J 0∧ts.getD J 0<M.v)):=by
 have key:∀ m,(∀ k,k<m→0≤ts.getD k 0∧ts.getD k 0<M.v)∨∃ J,J<m∧(∀ k,k<J→0≤ts.getD k 0∧ts.getD k 0<M.v)∧¬(0≤ts.getD J 0∧ts.getD J 0<M.v):=by
  intro m
  induction m with
  | zero=>exact .inl (fun k hk=>by omega)
  | succ m ih =>
   rcases ih with ih|⟨J,h1,h2,h3⟩
   ·by_cases hm:0≤ts.getD m 0∧ts.getD m 0<M.v
    ·refine .inl (fun k hk=>?_)
     by_cases e:k=m
     ·subst e;exact hm
     ·exact ih k (by omega)
    ·exact .inr ⟨m,by omega,ih,hm⟩
   ·exact .inr ⟨J,by omega,h2,h3⟩
 by_cases hn:n≤24
 ·rcases key n with k1|⟨J,h1,h2,h3⟩
  ·exfalso
   unfold runB at h
   rw[decide_eq_true hn,Bool.true_and] at h
   have:(List.range n).all (tokB M ts)=true:=List.all_eq_true.2 (fun k hk=>by
    unfold tokB
    have:=k1 k (List.mem_range.1 hk)
    rw[decide_eq_true this.1,decide_eq_true this.2]
    rfl)
   rw[this] at h
   cases h
  ·exact⟨J,h1,by omega,h2,.inr h3⟩
 ·rcases key 24 with k1|⟨J,h1,h2,h3⟩
  ·exact⟨24,by omega,by omega,k1,.inl rfl⟩
  ·exact⟨J,by omega,by omega,h2,.inr h3⟩
theorem Qg4 (B:Bool)(R S d h l v u x t n:Int)(w:World)
  (k36:∀ w,Calls Tryz.prog 35 #[.agg (c8 d h l v u x t n)] w fun e w'=>e=.returned (.bool B)∧Bw w w') (V:Bool) (hV:(B && (decide (1≤R) && (decide (R≤4) && (decide (0≤S) && decide (S≤8)))))=V) :
  Calls Tryz.prog 90 #[I4 R,I4 S,.agg (c8 d h l v u x t n)] w fun e w'=>e=.returned (.bool V)∧Bw w w':=by
 have hb:=bNw (bS w) (.cells (c8 d h l v u x t n) 23)
 subst hV
 cases B with
 | false =>
  go_enter Tryz.func90,Tryz.ntmps90
  go_wp2_with (first|(go_at_call 35;refine (k36 _).mono ?_;rintro e W1 ⟨rfl,h1⟩;replace hb:=bTn hb h1;clear h1))
  go_ret
  exact⟨rfl,hb⟩
 | true =>
  by_cases r1:1≤R
  ·by_cases r2:R≤4
   ·by_cases r3:0≤S
    ·simp only[r1,r2,r3,decide_true,Bool.true_and]
     go_enter Tryz.func90,Tryz.ntmps90
     go_wp2_with (first|(go_at_call 35;refine (k36 _).mono ?_;rintro e W1 ⟨rfl,h1⟩;replace hb:=bTn hb h1;clear h1))
     go_ret
     exact⟨rfl,hb⟩
    ·simp only[r1,r2,r3,decide_true,decide_false,Bool.and_false,Bool.false_and]
     go_enter Tryz.func90,Tryz.ntmps90
     go_wp2_with (first|(go_at_call 35;refine (k36 _).mono ?_;rintro e W1 ⟨rfl,h1⟩;replace hb:=bTn hb h1;clear h1))
     go_ret
     exact⟨rfl,hb⟩
   ·simp only[r1,r2,decide_true,decide_false,Bool.and_false,Bool.false_and]
    go_enter Tryz.func90,Tryz.ntmps90
    go_wp2_with (first|(go_at_call 35;refine (k36 _).mono ?_;rintro e W1 ⟨rfl,h1⟩;replace hb:=bTn hb h1;clear h1))
    go_ret
    exact⟨rfl,hb⟩
  ·simp only[r1,decide_false,Bool.and_false,Bool.false_and]
   go_enter Tryz.func90,Tryz.ntmps90
   go_wp2_with (first|(go_at_call 35;refine (k36 _).mono ?_;rintro e W1 ⟨rfl,h1⟩;replace hb:=bTn hb h1;clear h1))
   go_ret
   exact⟨rfl,hb⟩
theorem Qg5 (R S d h l v u x t n:Int)(w:World) :
  Calls Tryz.prog 90 #[I4 R,I4 S,.agg (c8 d h l v u x t n)] w fun e w'=>e=.returned (.bool (okA R S d h l v u x t n))∧Bw w w' :=
 Qg4 (okB d h l v u x t n) R S d h l v u x t n w (QcU d h l v u x t n) _ rfl
theorem Qe9 (B:Bool)(R S d h l v u x t n:Int)(w:World)
  (k41:∀ w,Calls Tryz.prog 36 #[.agg (c8 d h l v u x t n)] w fun e w'=>e=.returned (.bool B)∧Bw w w') (V:Bool) (hV:(B && (decide (1≤R) && (decide (R≤4) && (decide (0≤S) && decide (S≤8)))))=V) :
  Calls Tryz.prog 83 #[I4 R,I4 S,.agg (c8 d h l v u x t n)] w fun e w'=>e=.returned (.bool V)∧Bw w w':=by
 have hb:=bNw (bS w) (.cells (c8 d h l v u x t n) 23)
 subst hV
 cases B with
 | false =>
  go_enter Tryz.func83,Tryz.ntmps83
  go_wp2_with (first|(go_at_call 36;refine (k41 _).mono ?_;rintro e W1 ⟨rfl,h1⟩;replace hb:=bTn hb h1;clear h1))
  go_ret
  exact⟨rfl,hb⟩
 | true =>
  by_cases r1:1≤R
  ·by_cases r2:R≤4
   ·by_cases r3:0≤S
    ·simp only[r1,r2,r3,decide_true,Bool.true_and]
     go_enter Tryz.func83,Tryz.ntmps83
     go_wp2_with (first|(go_at_call 36;refine (k41 _).mono ?_;rintro e W1 ⟨rfl,h1⟩;replace hb:=bTn hb h1;clear h1))
     go_ret
     exact⟨rfl,hb⟩
    ·simp only[r1,r2,r3,decide_true,decide_false,Bool.and_false,Bool.false_and]
     go_enter Tryz.func83,Tryz.ntmps83
     go_wp2_with (first|(go_at_call 36;refine (k41 _).mono ?_;rintro e W1 ⟨rfl,h1⟩;replace hb:=bTn hb h1;clear h1))
     go_ret
     exact⟨rfl,hb⟩
   ·simp only[r1,r2,decide_true,decide_false,Bool.and_false,Bool.false_and]
    go_enter Tryz.func83,Tryz.ntmps83
    go_wp2_with (first|(go_at_call 36;refine (k41 _).mono ?_;rintro e W1 ⟨rfl,h1⟩;replace hb:=bTn hb h1;clear h1))
    go_ret
    exact⟨rfl,hb⟩
  ·simp only[r1,decide_false,Bool.and_false,Bool.false_and]
   go_enter Tryz.func83,Tryz.ntmps83
   go_wp2_with (first|(go_at_call 36;refine (k41 _).mono ?_;rintro e W1 ⟨rfl,h1⟩;replace hb:=bTn hb h1;clear h1))
   go_ret
   exact⟨rfl,hb⟩
theorem QcF (R S d h l v u x t n:Int)(w:World) :
  Calls Tryz.prog 83 #[I4 R,I4 S,.agg (c8 d h l v u x t n)] w fun e w'=>e=.returned (.bool (okA R S d h l v u x t n))∧Bw w w' :=
 Qe9 (okB d h l v u x t n) R S d h l v u x t n w (Qat d h l v u x t n) _ rfl
structure Qop (R S d l:Int):Prop where
 r0:1≤R
 r1:R≤4
 s0:0≤S
 s1:S≤8
 d0:2≤d
 d1:d≤8
 l0:1≤l
 l1:l≤2
theorem Qf1 (R d h l v u x t n:Int)(N:Int)(hN:R*d=N)(h0:-9223372036854775808≤N)(h1:N≤9223372036854775807)(w:World) :
  Calls Tryz.prog 92 #[I4 R,.agg (c8 d h l v u x t n)] w fun e w'=>e=.returned (I4 N)∧Bw w w':=by
 have hb:=bNw (bS w) (.cells (c8 d h l v u x t n) 23)
 go_enter Tryz.func92,Tryz.ntmps92
 go_wp2
 go_ret
 exact⟨rfl,hb⟩
theorem Qnl:(Tryz.prog.info? 120).map (fun i=>(i.zero,i.size,i.bytes))=some (some (.pointer none),1,8):=by kernel_rfl
theorem Qlg (p0 p1 p2 p3:Value):(∀ w:World,(Instr.index 125 (.agg #[p0,p1,p2,p3]) (I4 0)).run Tryz.prog w=.ok p0 w)∧(∀ w:World,(Instr.index 125 (.agg #[p0,p1,p2,p3]) (I4 1)).run Tryz.prog w=.ok p1 w)∧(∀ w:World,(Instr.index 125 (.agg #[p0,p1,p2,p3]) (I4 2)).run Tryz.prog w=.ok p2 w)∧(∀ w:World,(Instr.index 125 (.agg #[p0,p1,p2,p3]) (I4 3)).run Tryz.prog w=.ok p3 w):=by
 obtain⟨i,hi,hzz⟩:=Option.map_eq_some_iff.1 Qnl
 simp only[Prod.mk.injEq] at hzz
 refine⟨?_,?_,?_,?_⟩<;>intro w<;>simp[Instr.index,run_underlying Tryz.underlying125,asIntOf,go_sem,typeInfo,sizeOf,hi,hzz.2.1]
theorem QjA (P:Addr)(w:World):Calls Tryz.prog 91 #[.pointer (some P)] w fun e w'=>e=.returned (.agg #[.pointer (some P),.pointer (some ⟨P.block,P.off+1,none⟩),.pointer (some ⟨P.block,P.off+2,none⟩),.pointer (some ⟨P.block,P.off+3,none⟩)])∧Bw w w':=by
 go_enter Tryz.func91,Tryz.ntmps91
 go_wp2
 go_region_held3 (fun W=>True) (trivial) (first|fail)
 go_wp2
 refine bodyPost_ret (v:=.agg #[.pointer (some P),.pointer (some ⟨P.block,P.off+1,none⟩),.pointer (some ⟨P.block,P.off+2,none⟩),.pointer (some ⟨P.block,P.off+3,none⟩)]) ?_ rfl ⟨rfl,bDr (bNw (bT w) _) ⟨1,rfl⟩⟩
 simp[results,Tryz.results91,go_sem]
theorem QmS (M:Md)(tok j:Nat)(hj:j<M.D):(embL M tok).getD j 0=M.m.e.getD (tok*M.D+j) 0*1024:=by simp[embL,hj]
theorem Qj6 {y:Int}(h:(Lit.int .i8 y).wf=true):-128≤y∧y≤127:=by
 simpa [Lit.wf,IntKind.min,IntKind.max,IntKind.signed,IntKind.bits] using h
theorem Qj7 {M:Md}(he:∀ i,(Lit.int .i8 (M.m.e.getD i 0)).wf=true)(tok:Nat):∀ z∈embL M tok,(Lit.int .i64 z).wf=true:=fun z hz=>by
 obtain⟨y,_,rfl⟩:=List.mem_map.1 hz
 have:=Qj6 (he (tok*M.D+y))
 exact WalkArith.wf_i64 ⟨by omega,by omega⟩
theorem Qf8 (M:Md)(E L N O:SL)(Y U D:Nat→Nat→SL)(F:Qaq M)(w:World)(hM:Qad w E L N O Y U D M.m)(tok:Nat)(ht:(tok:Int)<M.v) :
  Calls Tryz.prog 59 #[.agg #[.int .i64 M.d,.int .i64 M.h,.int .i64 M.l,.int .i64 M.v,.int .i64 M.u,.int .i64 M.x,.int .i64 M.t,.int .i64 M.n,.slice E.a E.n E.c,.slice L.a L.n L.c,.slice N.a N.n N.c,.slice O.a O.n O.c],.int .i64 tok] w fun e w'=>(∃ a c,e=.returned (.slice a M.D c)∧Reads .i64 w' a M.D (embL M tok)∧∀ x,a=some x→w.heap.size≤x.block)∧Below w.heap.size w w':=by
 obtain⟨i0,hi,hz0,hz1,hz2⟩:=info_parts QaT
 have d0:=F.d0
 have d1:=F.d1
 have v1:=F.v1
 have eD:=F.eD
 have he:=hM.e
 have elen:(E.n:Int)=M.v*M.D:=by rw[←he.reads.len];exact F.e
 obtain⟨V,hV⟩:∃ V:Nat,M.v=V:=⟨M.v.toNat,by have:=F.v0;omega⟩
 have elen':E.n=V*M.D:=by rw[hV,←Int.natCast_mul] at elen;exact Int.ofNat.inj elen
 have hp:(tok+1)*M.D≤V*M.D:=Nat.mul_le_mul_right _ (by omega)
 rw[Nat.succ_mul] at hp
 have hpb:V*M.D≤16*8:=Nat.mul_le_mul (by omega) d1
 obtain⟨Ea,En,Ec⟩:=E
 obtain⟨y,rfl⟩:∃ y,Ea=some y:=he.reads.some_ (by show 0<En;have:En=V*M.D:=elen';omega)
 obtain⟨P,eP⟩:∃ P,tok*M.D=P:=⟨_,rfl⟩
 have ip:(tok:Int)*(M.D:Int)=(P:Int):=by rw[←eP];simp
 have wfE:=he.reads.wf
 have hE:Reads .i8 w (some y) En M.m.e:=he.reads
 have hcap:En≤Ec:=he.cap
 have elen2:En=V*M.D:=elen'
 have hin:∀ j,j<M.D→P+j<En:=fun j hj=>by omega
 have hEs:En≤128:=by omega
 obtain⟨W0,eW⟩:∃ W0,w.alloc (.cells #[.int .i64 M.d,.int .i64 M.h,.int .i64 M.l,.int .i64 M.v,.int .i64 M.u,.int .i64 M.x,.int .i64 M.t,.int .i64 M.n,.slice (some y) En Ec,.slice L.a L.n L.c,.slice N.a N.n N.c,.slice O.a O.n O.c] 27)=W0:=⟨_,rfl⟩
 have hb0:Below w.heap.size w W0:=eW ▸ bNw (bT w) _
 have q0:Blk 27 W0 w.heap.size #[.int .i64 M.d,.int .i64 M.h,.int .i64 M.l,.int .i64 M.v,.int .i64 M.u,.int .i64 M.x,.int .i64 M.t,.int .i64 M.n,.slice (some y) En Ec,.slice L.a L.n L.c,.slice N.a N.n N.c,.slice O.a O.n O.c]:=eW ▸ Blk.new 27 w _
 have hE0:=hE.below hb0
 have HQ:=hdn q0
 have c0:W0.cell? ⟨w.heap.size,0,none⟩=some (.int .i64 M.d):=q0.cell 0 rfl
 obtain⟨D0,eD0⟩:∃ D0,M.D=D0:=⟨_,rfl⟩
 have eE:∀ j,j<D0→(embL M tok).getD j 0=M.m.e.getD (P+j) 0*1024:=fun j hj=>by rw[QmS M tok j (by omega),eP]
 have ll:(embL M tok).length=D0:=by rw[Qe0,eD0]
 have wfe:=Qj7 (M:=M) wfE tok
 obtain⟨zs,ezs⟩:∃ zs,embL M tok=zs:=⟨_,rfl⟩
 obtain⟨es,ees⟩:∃ es,M.m.e=es:=⟨_,rfl⟩
 rw[ezs] at eE ll wfe ⊢
 rw[ees] at eE hE0 wfE
 rw[eD0] at eD ip d0 d1 hin ⊢
 clear q0 hM F he elen elen' hp hpb eP hE hb0 hcap elen2 hV ht v1 ezs ees eD0
 have Hb:Hid (Below w.heap.size w W0):=eW ▸ bNw (bT w) _
 have ED:Hid (M.d=(D0:Int)):=eD
 clear eD
 dsimp only
 go_enter Tryz.func59,Tryz.ntmps59
 go_wp2_with (first|(at_make;(refine wpList_make_full _ rfl (.tmp 9) (.tmp 9) 34 rfl W0.heap.size 2 i0 (.int .i64 0) 1 Tryz.underlying34 hi hz0 hz1 .i64 .i64 _ _ D0 rfl rfl ED.out ED.out (by rw[hz2];omega) (by unfold maxLen;omega) nL ?_);intro w1 hown hgrow))
 have hbel:Below W0.heap.size W0 w1:=bR.grown hgrow nL (fun k h=>by cases h)
 clear hgrow eW c0
 obtain⟨B0,eB0⟩:∃ B0,W0.heap.size=B0:=⟨_,rfl⟩
 rw[eB0] at hown hbel ⊢
 obtain⟨b,eb⟩:∃ b,w.heap.size=b:=⟨_,rfl⟩
 rw[eb] at HQ ⊢
 go_wp2
 go_loopw [13] (fun i wr=>∃ k:Nat,k≤D0∧i=.int .i64 k∧Below B0 W0 wr∧∃ cs,wr.ownsRow B0 2 1 (.slice (some ⟨B0,0,none⟩) D0 D0) D0 cs∧∀ j,j<k→cs[j]? = some (.int .i64 (zs.getD j 0))) (fun i _=>D0-(intOf i).toNat)
 case atStart=>exact⟨0,Nat.zero_le _,rfl,hbel,_,hown,fun j hj=>by omega⟩
 case round =>
  clear hown hbel
  obtain⟨k,hk,rfl,hbr,cs,ho,hcs⟩:=hrel
  by_cases hlt:k<D0
  ·have hbr':Below W0.heap.size W0 wr:=eB0 ▸ hbr
   have c8:=(HQ.out.kept hbr').cell 8 (v:=.slice (some y) En Ec) rfl
   have hin':=hin k hlt
   have cy:=(hE0.below hbr').cell y rfl (P+k) hin'
   obtain⟨Q,eQ⟩:∃ Q,P+k=Q:=⟨_,rfl⟩
   have iQ:(P:Int)+(k:Int)=(Q:Int):=by omega
   have ek:=eE k hlt
   rw[eQ] at cy hin' ek
   have wq:=Qj6 (wfE Q)
   obtain⟨X,eX⟩:∃ X,es.getD Q 0=X:=⟨_,rfl⟩
   rw[eX] at cy ek wq
   have hlen:=oLe ho
   obtain⟨u,hu⟩:∃ u,cs[k]? = some u:=⟨cs[k],by simp[hlen,hlt]⟩
   have cell:wr.cell? ⟨B0,k,none⟩=some u:=(ho.cellAt k (by omega)).trans hu
   have froz:=ho.frozenAt k
   have R:Hid (Below B0 W0 (wr.setCell ⟨B0,k,none⟩ (.int .i64 (X*1024)))∧∃ cs',(wr.setCell ⟨B0,k,none⟩ (.int .i64 (X*1024))).ownsRow B0 2 1 (.slice (some ⟨B0,0,none⟩) D0 D0) D0 cs'∧∀ j,j<k+1→cs'[j]? = some (.int .i64 (zs.getD j 0))) :=
    ⟨hbr.setCell nL _,_,(ho.stored k _).1,set_step (F:=fun j=>Value.int .i64 (zs.getD j 0)) hlen hlt (by rw[ek]) hcs⟩
   clear eQ eX ek ho hcs hlen hu hbr hbr' hin eE wfe wfE hi hz0 hz1 hz2
   go_wp2
   go_roundw
   case rel=>exact⟨k+1,by omega,by go_num,R.out⟩
   case measure=>simp[intOf];omega
  ·have e:k=D0:=by omega
   subst e
   have fin:=oRa (zs:=zs) ho ll wfe hcs
   clear hcs ho eE
   have hbr':Below W0.heap.size W0 wr:=eB0 ▸ hbr
   have hbw:=bTn Hb.out hbr'
   have frs:Hid (∀ x:Addr,some (⟨B0,0,none⟩:Addr)=some x→w.heap.size≤x.block):=fun x hx=>by
    have h1:B0=x.block:=congrArg Addr.block (Option.some.inj hx)
    have h2:=Hb.out.size
    omega
   clear hbr hbr'
   go_wp2
   go_ret
   exact⟨⟨_,_,rfl,fin,frs.out⟩,hbw⟩
def lkD (i:Nat):Option Nat:=match i with|0=>some 17|1=>some 18|2=>some 19|3=>some 20|4=>some 21|5=>some 22|6=>some 23|7=>some 13|8=>some 14|_=>none
theorem Qnj:∀ i,i<11→∀ j,j<11→lkD i=lkD j→lkD i≠none→i=j:=by decide
theorem Qoa:∀ i,i<11→∀ d,lkD i=some d→d<118:=by
 intro i hi d h
 have:∀ i,i<11→(lkD i).all (fun d=>decide (d<118))=true:=by decide
 have:=this i hi
 rw[h] at this
 simpa using this
def lkF (g:Nat)(M:Md)(E L N O:SL)(Y:Nat→Nat→SL)(B i:Nat)(x:Addr)(k:Nat→Bool)(j:Nat)(q:Value)(w:World):Prop:=match j with
 | 0=>q=Pt B
 | 1=>q=.agg M.cc
 | 2=>q=.pointer (some ⟨B,9,none⟩)
 | 3=>q=.slice (some x) M.m.ln L.c
 | 4=>q=I4 i
 | 5=>q=.pointer (some (x.add (i*9)))
 | 6=>q=.agg (y9 (Y i))
 | 7=>∃ b,q=Pt b∧g≤b∧Blk 23 w b (cond (k 9) M.cc z8)
 | 8=>∃ b,q=Pt b∧g≤b∧Blk 65 w b (cond (k 10) (y9 (Y i)) z9)
 | _=>True
theorem Qg1 {id:Nat}{ops:Array Oper}{Q:Exit→Act→World→Prop}{a0:Act}{w0:World}(M:Md)(E L N O:SL)(Y:Nat→Nat→SL)(B i:Nat)(x:Addr)(U D:Nat→Nat→SL)(hM:Qad w0 E L N O Y U D M.m)(hx:L.a=some x)(hi':i<M.m.ln)(hB:Blk 27 w0 B (M.mx E x L N O))
  (hlow:lowB ops=true) (hsz:ops.size=11)
  (oo:OpS ops 0 17 (.fieldAddr 27 (.tmp 5) 0) []∧OpS ops 1 18 (.load 23 (.tmp 17)) [0]∧OpS ops 2 19 (.fieldAddr 27 (.tmp 5) 2) []∧OpS ops 3 20 (.load 25 (.tmp 19)) [2]∧OpS ops 4 21 (.move (.tmp 2)) []∧OpS ops 5 22 (.indexAddr 25 (.tmp 20) (.tmp 21)) [3,4]∧OpS ops 6 23 (.load 65 (.tmp 22)) [5]∧OpS ops 7 13 (.alloc 23) []∧OpS ops 8 14 (.alloc 65) []∧OpIn ops 9 none (.store 23 (.tmp 13) (.tmp 18)) none [1,7]∧OpIn ops 10 none (.store 65 (.tmp 14) (.tmp 23)) none [6,8])
  (ub:a0.tmps.getD 5 undef=Pt B) (ui:a0.tmps.getD 2 undef=I4 i)
  (hs:118≤a0.tmps.size)
  (fin:∀ a w cb lb,a.tmps.size=a0.tmps.size→a.defers=a0.defers→(∀ s,(∀ i,i<11→lkD i≠some s)→a.tmps.getD s undef=a0.tmps.getD s undef)→tm a 13=Pt cb→tm a 14=Pt lb→Bw w0 w→Blk 23 w cb M.cc→Blk 65 w lb (y9 (Y i))→Q .normal a w):(Code.region id ops true).wp Tryz.prog Q a0 w0:=by
 obtain⟨o0,o1,o2,o3,o4,o5,o6,o7,o8,o9,o10⟩:=oo
 refine wRi (by kernel_rfl) hlow (Inv 11 lkD a0 (fun _ _ w=>Bw w0 w) (lkF w0.heap.size M E L N O Y B i x)) (Inv.start bR.drew) ?_ ?_
 ·intro k i' o a w ho hl hcl hdep hI
  have hi:i'<11:=by rw[←hsz];exact (Array.getElem?_eq_some_iff.1 ho).1
  have ev:∀ (s:Nat),a.eval (.tmp s)=a.tmps.getD s undef:=fun _=>rfl
  have inj:∀ d,lkD i'=some d→∀ j d',j<11→lkD j=some d'→j≠i'→d'≠d:=fun d hd j d' hj hd' hne e=>hne (Qnj j hj i' hi (by rw[hd',hd,e]) (by rw[hd'];simp))
  have kp:∀ s,(∀ i,i<11→lkD i≠some s)→a.tmps.getD s undef=a0.tmps.getD s undef:=hI.kept
  have hw:Bw w0 w:=hI.world
  have oth:∀ j,j≠i'→(k j || j==i')=k j:=fun j hj=>by rw[show (j==i')=false by simp[hj],Bool.or_false]
  have sam:(k i' || i'==i')=true:=by simp
  have U1:=(kp 5 (by decide)).trans ub
  have U2:=(kp 2 (by decide)).trans ui
  have qB:=hB.kept hw
  have hM':=hM.below hw
  have go:∀ {d:Nat}{v:Value}{w':World},lkD i'=some d→i'≠9∧i'≠10→Bw w w'→lkF w0.heap.size M E L N O Y B i x (fun j=>k j || j==i') i' v w'→Inv 11 lkD a0 (fun _ _ w=>Bw w0 w) (lkF w0.heap.size M E L N O Y B i x) (fun j=>k j || j==i') (a.put (some d) v) w':=by
   intro d v w' hD hn hb hF
   refine hI.put hi hD (Nat.lt_of_lt_of_le (Qoa i' hi d hD) hs) (inj d hD) (bTn hw hb) hF (fun j u hj _ _ hf=>?_)
   unfold lkF at hf ⊢
   dsimp only
   rw[oth 9 (fun e=>hn.1 e.symm),oth 10 (fun e=>hn.2 e.symm)]
   rcases l11 (show j<11 by omega) with rfl|rfl|rfl|rfl|rfl|rfl|rfl|rfl|rfl|rfl|rfl<;>first
    | exact hf
    | (obtain⟨b,q1,q0,q2⟩:=hf;exact⟨b,q1,q0,q2.kept hb⟩)
  rcases l11 (show i'<11 by omega) with rfl|rfl|rfl|rfl|rfl|rfl|rfl|rfl|rfl|rfl|rfl
  ·obtain⟨e2,e3,e4,dp⟩:=o0.at_ ho hdep
   exact wVa (v:=Pt B) (w':=w) ho e4 (by simp[execOp,e3,ev,U1,Qaw B 0 0 (by omega)]) (by rw[e2];exact go rfl (by decide) bR rfl)
  ·obtain⟨e2,e3,e4,dp⟩:=o1.at_ ho hdep
   have V0:tm a 17=_:=hI.vl dp 0 17 rfl rfl
   exact wVa (v:=.agg M.cc) (w':=w) ho e4 (by simp[execOp,e3,ev,V0,Qck qB]) (by rw[e2];exact go rfl (by decide) bR rfl)
  ·obtain⟨e2,e3,e4,dp⟩:=o2.at_ ho hdep
   exact wVa (v:=.pointer (some ⟨B,9,none⟩)) (w':=w) ho e4 (by simp[execOp,e3,ev,U1,Qaw B 2 9 (by omega)]) (by rw[e2];exact go rfl (by decide) bR rfl)
  ·obtain⟨e2,e3,e4,dp⟩:=o3.at_ ho hdep
   have V2:tm a 19=_:=hI.vl dp 2 19 rfl rfl
   have c9:w.cell? ⟨B,9,none⟩=some (.slice (some x) M.m.ln L.c):=qB.cell 9 rfl
   exact wVa (v:=.slice (some x) M.m.ln L.c) (w':=w) ho e4 (by simp[execOp,e3,ev,V2,Qdu c9]) (by rw[e2];exact go rfl (by decide) bR rfl)
  ·obtain⟨e2,e3,e4,dp⟩:=o4.at_ ho hdep
   exact wVa (v:=I4 i) (w':=w) ho e4 (by simp[execOp,e3,ev,U2]) (by rw[e2];exact go rfl (by decide) bR rfl)
  ·obtain⟨e2,e3,e4,dp⟩:=o5.at_ ho hdep
   have V3:tm a 20=_:=hI.vl dp 3 20 rfl rfl
   have V4:tm a 21=_:=hI.vl dp 4 21 rfl rfl
   exact wVa (v:=.pointer (some (x.add (i*9)))) (w':=w) ho e4 (by simp[execOp,e3,ev,V3,V4,QcN hi' w]) (by rw[e2];exact go rfl (by decide) bR rfl)
  ·obtain⟨e2,e3,e4,dp⟩:=o6.at_ ho hdep
   have V5:tm a 22=_:=hI.vl dp 5 22 rfl rfl
   exact wVa (v:=.agg (y9 (Y i))) (w':=w) ho e4 (by simp[execOp,e3,ev,V5,Qds (y:=Y i) (fun j hj=>hM'.cell x hx i hi' j hj)]) (by rw[e2];exact go rfl (by decide) bR rfl)
  ·obtain⟨e2,e3,e4,dp⟩:=o7.at_ ho hdep
   have nd:k 9=false:=by
    cases e:k 9 with
    | false=>rfl
    | true =>
     have y:=hcl.dep' o9 e 7 (by decide)
     rw[hl] at y
     cases y
   refine wVa (v:=Pt w.heap.size) (w':=w.alloc (.cells z8 23)) ho e4 (by simp[execOp,e3,QcQ]) ?_
   rw[e2]
   refine go rfl (by decide) (bNw bR _) ⟨w.heap.size,rfl,hw.size,?_⟩
   dsimp only
   rw[oth 9 (by decide),nd]
   exact Blk.new 23 w _
  ·obtain⟨e2,e3,e4,dp⟩:=o8.at_ ho hdep
   have nd:k 10=false:=by
    cases e:k 10 with
    | false=>rfl
    | true =>
     have y:=hcl.dep' o10 e 8 (by decide)
     rw[hl] at y
     cases y
   refine wVa (v:=Pt w.heap.size) (w':=w.alloc (.cells z9 65)) ho e4 (by simp[execOp,e3,QcP]) ?_
   rw[e2]
   refine go rfl (by decide) (bNw bR _) ⟨w.heap.size,rfl,hw.size,?_⟩
   dsimp only
   rw[oth 10 (by decide),nd]
   exact Blk.new 65 w _
  ·obtain⟨e2,e3,e4,dp⟩:=o9.at_ ho hdep
   have V1:tm a 18=_:=hI.vl dp 1 18 rfl rfl
   obtain⟨b,V7,bge,q⟩:=hI.vl dp 7 13 rfl rfl
   rw[hl] at q
   obtain⟨w',r',q',on⟩:=QcK q M.d M.h M.l M.v M.u M.x M.t M.n
   refine wSk (w':=w') ho e4 (by simp[execOp,e3,ev,V7,V1,r']) ?_
   rw[e2]
   refine Inv.none_' hI rfl (Only.below hw bge hw.size on) (fun j dd hj hD hkj hne hf=>?_)
   rcases l11 (show j<11 by omega) with rfl|rfl|rfl|rfl|rfl|rfl|rfl|rfl|rfl|rfl|rfl
   ·exact hf
   ·exact hf
   ·exact hf
   ·exact hf
   ·exact hf
   ·exact hf
   ·exact hf
   ·obtain⟨b2,p1,p0,p2⟩:=hf
    have eb:b2=b:=by
     obtain rfl:=Option.some.inj hD
     have:=V7.symm.trans p1
     simp at this
     exact this.symm
    subst eb
    refine⟨b2,p1,p0,?_⟩
    dsimp only
    rw[sam]
    exact q'
   ·obtain⟨b2,p1,p0,p2⟩:=hf
    refine⟨b2,p1,p0,?_⟩
    dsimp only
    rw[oth 10 (by decide)]
    exact p2.only on (p2.apart q (by decide))
   ·trivial
   ·trivial
  ·obtain⟨e2,e3,e4,dp⟩:=o10.at_ ho hdep
   have V6:tm a 23=_:=hI.vl dp 6 23 rfl rfl
   obtain⟨b,V8,bge,q⟩:=hI.vl dp 8 14 rfl rfl
   rw[hl] at q
   obtain⟨w',r',q',on⟩:=QcJ q (Y i)
   refine wSk (w':=w') ho e4 (by simp[execOp,e3,ev,V8,V6,r']) ?_
   rw[e2]
   refine Inv.none_' hI rfl (Only.below hw bge hw.size on) (fun j dd hj hD hkj hne hf=>?_)
   rcases l11 (show j<11 by omega) with rfl|rfl|rfl|rfl|rfl|rfl|rfl|rfl|rfl|rfl|rfl
   ·exact hf
   ·exact hf
   ·exact hf
   ·exact hf
   ·exact hf
   ·exact hf
   ·exact hf
   ·obtain⟨b2,p1,p0,p2⟩:=hf
    refine⟨b2,p1,p0,?_⟩
    dsimp only
    rw[oth 9 (by decide)]
    exact p2.only on (p2.apart q (by decide))
   ·obtain⟨b2,p1,p0,p2⟩:=hf
    have eb:b2=b:=by
     obtain rfl:=Option.some.inj hD
     have:=V8.symm.trans p1
     simp at this
     exact this.symm
    subst eb
    refine⟨b2,p1,p0,?_⟩
    dsimp only
    rw[sam]
    exact q'
   ·trivial
   ·trivial
 ·intro k a w hall hI
  have all:∀ j,j<11→k j=true:=fun j hj=>hall j (by rw[hsz];exact hj)
  obtain⟨cb,v1,-,q1⟩:∃ b,tm a 13=Pt b∧w0.heap.size≤b∧Blk 23 w b (cond (k 9) M.cc z8):=hI.va all 7 13 rfl rfl
  obtain⟨lb,v2,-,q2⟩:∃ b,tm a 14=Pt b∧w0.heap.size≤b∧Blk 65 w b (cond (k 10) (y9 (Y i)) z9):=hI.va all 8 14 rfl rfl
  rw[all 9 (by decide)] at q1
  rw[all 10 (by decide)] at q2
  exact fin a w cb lb hI.size hI.defers hI.kept v1 v2 hI.world q1 q2
def wkD (i:Nat):Option Nat:=match i with|0=>some 12|1=>some 13|2=>some 14|3=>some 15|4=>some 16|5=>some 17|6=>some 18|7=>some 9|8=>some 10|_=>none
theorem QmU:∀ i,i<11→∀ j,j<11→wkD i=wkD j→wkD i≠none→i=j:=by decide
theorem QnI:∀ i,i<11→∀ d,wkD i=some d→d<60:=by
 intro i hi d h
 have:∀ i,i<11→(wkD i).all (fun d=>decide (d<60))=true:=by decide
 have:=this i hi
 rw[h] at this
 simpa using this
def wkF (g:Nat)(M:Md)(E L N O:SL)(Y:Nat→Nat→SL)(B i:Nat)(x:Addr)(k:Nat→Bool)(j:Nat)(q:Value)(w:World):Prop:=match j with
 | 0=>q=Pt B
 | 1=>q=.agg M.cc
 | 2=>q=.pointer (some ⟨B,9,none⟩)
 | 3=>q=.slice (some x) M.m.ln L.c
 | 4=>q=I4 i
 | 5=>q=.pointer (some (x.add (i*9)))
 | 6=>q=.agg (y9 (Y i))
 | 7=>∃ b,q=Pt b∧g≤b∧Blk 23 w b (cond (k 9) M.cc z8)
 | 8=>∃ b,q=Pt b∧g≤b∧Blk 65 w b (cond (k 10) (y9 (Y i)) z9)
 | _=>True
theorem Qj3 {id:Nat}{ops:Array Oper}{Q:Exit→Act→World→Prop}{a0:Act}{w0:World}(M:Md)(E L N O:SL)(Y:Nat→Nat→SL)(B i:Nat)(x:Addr)(U D:Nat→Nat→SL)(hM:Qad w0 E L N O Y U D M.m)(hx:L.a=some x)(hi':i<M.m.ln)(hB:Blk 27 w0 B (M.mx E x L N O))
  (hlow:lowB ops=true) (hsz:ops.size=11)
  (oo:OpS ops 0 12 (.fieldAddr 27 (.tmp 4) 0) []∧OpS ops 1 13 (.load 23 (.tmp 12)) [0]∧OpS ops 2 14 (.fieldAddr 27 (.tmp 4) 2) []∧OpS ops 3 15 (.load 25 (.tmp 14)) [2]∧OpS ops 4 16 (.move (.tmp 1)) []∧OpS ops 5 17 (.indexAddr 25 (.tmp 15) (.tmp 16)) [3,4]∧OpS ops 6 18 (.load 65 (.tmp 17)) [5]∧OpS ops 7 9 (.alloc 23) []∧OpS ops 8 10 (.alloc 65) []∧OpIn ops 9 none (.store 23 (.tmp 9) (.tmp 13)) none [1,7]∧OpIn ops 10 none (.store 65 (.tmp 10) (.tmp 18)) none [6,8])
  (ub:a0.tmps.getD 4 undef=Pt B) (ui:a0.tmps.getD 1 undef=I4 i)
  (hs:60≤a0.tmps.size)
  (fin:∀ a w cb lb,a.tmps.size=a0.tmps.size→a.defers=a0.defers→(∀ s,(∀ i,i<11→wkD i≠some s)→a.tmps.getD s undef=a0.tmps.getD s undef)→tm a 9=Pt cb→tm a 10=Pt lb→Bw w0 w→Blk 23 w cb M.cc→Blk 65 w lb (y9 (Y i))→Q .normal a w):(Code.region id ops true).wp Tryz.prog Q a0 w0:=by
 obtain⟨o0,o1,o2,o3,o4,o5,o6,o7,o8,o9,o10⟩:=oo
 refine wRi (by kernel_rfl) hlow (Inv 11 wkD a0 (fun _ _ w=>Bw w0 w) (wkF w0.heap.size M E L N O Y B i x)) (Inv.start bR.drew) ?_ ?_
 ·intro k i' o a w ho hl hcl hdep hI
  have hi:i'<11:=by rw[←hsz];exact (Array.getElem?_eq_some_iff.1 ho).1
  have ev:∀ (s:Nat),a.eval (.tmp s)=a.tmps.getD s undef:=fun _=>rfl
  have inj:∀ d,wkD i'=some d→∀ j d',j<11→wkD j=some d'→j≠i'→d'≠d:=fun d hd j d' hj hd' hne e=>hne (QmU j hj i' hi (by rw[hd',hd,e]) (by rw[hd'];simp))
  have kp:∀ s,(∀ i,i<11→wkD i≠some s)→a.tmps.getD s undef=a0.tmps.getD s undef:=hI.kept
  have hw:Bw w0 w:=hI.world
  have oth:∀ j,j≠i'→(k j || j==i')=k j:=fun j hj=>by rw[show (j==i')=false by simp[hj],Bool.or_false]
  have sam:(k i' || i'==i')=true:=by simp
  have U1:=(kp 4 (by decide)).trans ub
  have U2:=(kp 1 (by decide)).trans ui
  have qB:=hB.kept hw
  have hM':=hM.below hw
  have go:∀ {d:Nat}{v:Value}{w':World},wkD i'=some d→i'≠9∧i'≠10→Bw w w'→wkF w0.heap.size M E L N O Y B i x (fun j=>k j || j==i') i' v w'→Inv 11 wkD a0 (fun _ _ w=>Bw w0 w) (wkF w0.heap.size M E L N O Y B i x) (fun j=>k j || j==i') (a.put (some d) v) w':=by
   intro d v w' hD hn hb hF
   refine hI.put hi hD (Nat.lt_of_lt_of_le (QnI i' hi d hD) hs) (inj d hD) (bTn hw hb) hF (fun j u hj _ _ hf=>?_)
   unfold wkF at hf ⊢
   dsimp only
   rw[oth 9 (fun e=>hn.1 e.symm),oth 10 (fun e=>hn.2 e.symm)]
   rcases l11 (show j<11 by omega) with rfl|rfl|rfl|rfl|rfl|rfl|rfl|rfl|rfl|rfl|rfl<;>first
    | exact hf
    | (obtain⟨b,q1,q0,q2⟩:=hf;exact⟨b,q1,q0,q2.kept hb⟩)
  rcases l11 (show i'<11 by omega) with rfl|rfl|rfl|rfl|rfl|rfl|rfl|rfl|rfl|rfl|rfl
  ·obtain⟨e2,e3,e4,dp⟩:=o0.at_ ho hdep
   exact wVa (v:=Pt B) (w':=w) ho e4 (by simp[execOp,e3,ev,U1,Qaw B 0 0 (by omega)]) (by rw[e2];exact go rfl (by decide) bR rfl)
  ·obtain⟨e2,e3,e4,dp⟩:=o1.at_ ho hdep
   have V0:tm a 12=_:=hI.vl dp 0 12 rfl rfl
   exact wVa (v:=.agg M.cc) (w':=w) ho e4 (by simp[execOp,e3,ev,V0,Qck qB]) (by rw[e2];exact go rfl (by decide) bR rfl)
  ·obtain⟨e2,e3,e4,dp⟩:=o2.at_ ho hdep
   exact wVa (v:=.pointer (some ⟨B,9,none⟩)) (w':=w) ho e4 (by simp[execOp,e3,ev,U1,Qaw B 2 9 (by omega)]) (by rw[e2];exact go rfl (by decide) bR rfl)
  ·obtain⟨e2,e3,e4,dp⟩:=o3.at_ ho hdep
   have V2:tm a 14=_:=hI.vl dp 2 14 rfl rfl
   have c9:w.cell? ⟨B,9,none⟩=some (.slice (some x) M.m.ln L.c):=qB.cell 9 rfl
   exact wVa (v:=.slice (some x) M.m.ln L.c) (w':=w) ho e4 (by simp[execOp,e3,ev,V2,Qdu c9]) (by rw[e2];exact go rfl (by decide) bR rfl)
  ·obtain⟨e2,e3,e4,dp⟩:=o4.at_ ho hdep
   exact wVa (v:=I4 i) (w':=w) ho e4 (by simp[execOp,e3,ev,U2]) (by rw[e2];exact go rfl (by decide) bR rfl)
  ·obtain⟨e2,e3,e4,dp⟩:=o5.at_ ho hdep
   have V3:tm a 15=_:=hI.vl dp 3 15 rfl rfl
   have V4:tm a 16=_:=hI.vl dp 4 16 rfl rfl
   exact wVa (v:=.pointer (some (x.add (i*9)))) (w':=w) ho e4 (by simp[execOp,e3,ev,V3,V4,QcN hi' w]) (by rw[e2];exact go rfl (by decide) bR rfl)
  ·obtain⟨e2,e3,e4,dp⟩:=o6.at_ ho hdep
   have V5:tm a 17=_:=hI.vl dp 5 17 rfl rfl
   exact wVa (v:=.agg (y9 (Y i))) (w':=w) ho e4 (by simp[execOp,e3,ev,V5,Qds (y:=Y i) (fun j hj=>hM'.cell x hx i hi' j hj)]) (by rw[e2];exact go rfl (by decide) bR rfl)
  ·obtain⟨e2,e3,e4,dp⟩:=o7.at_ ho hdep
   have nd:k 9=false:=by
    cases e:k 9 with
    | false=>rfl
    | true =>
     have y:=hcl.dep' o9 e 7 (by decide)
     rw[hl] at y
     cases y
   refine wVa (v:=Pt w.heap.size) (w':=w.alloc (.cells z8 23)) ho e4 (by simp[execOp,e3,QcQ]) ?_
   rw[e2]
   refine go rfl (by decide) (bNw bR _) ⟨w.heap.size,rfl,hw.size,?_⟩
   dsimp only
   rw[oth 9 (by decide),nd]
   exact Blk.new 23 w _
  ·obtain⟨e2,e3,e4,dp⟩:=o8.at_ ho hdep
   have nd:k 10=false:=by
    cases e:k 10 with
    | false=>rfl
    | true =>
     have y:=hcl.dep' o10 e 8 (by decide)
     rw[hl] at y
     cases y
   refine wVa (v:=Pt w.heap.size) (w':=w.alloc (.cells z9 65)) ho e4 (by simp[execOp,e3,QcP]) ?_
   rw[e2]
   refine go rfl (by decide) (bNw bR _) ⟨w.heap.size,rfl,hw.size,?_⟩
   dsimp only
   rw[oth 10 (by decide),nd]
   exact Blk.new 65 w _
  ·obtain⟨e2,e3,e4,dp⟩:=o9.at_ ho hdep
   have V1:tm a 13=_:=hI.vl dp 1 13 rfl rfl
   obtain⟨b,V7,bge,q⟩:=hI.vl dp 7 9 rfl rfl
   rw[hl] at q
   obtain⟨w',r',q',on⟩:=QcK q M.d M.h M.l M.v M.u M.x M.t M.n
   refine wSk (w':=w') ho e4 (by simp[execOp,e3,ev,V7,V1,r']) ?_
   rw[e2]
   refine Inv.none_' hI rfl (Only.below hw bge hw.size on) (fun j dd hj hD hkj hne hf=>?_)
   rcases l11 (show j<11 by omega) with rfl|rfl|rfl|rfl|rfl|rfl|rfl|rfl|rfl|rfl|rfl
   ·exact hf
   ·exact hf
   ·exact hf
   ·exact hf
   ·exact hf
   ·exact hf
   ·exact hf
   ·obtain⟨b2,p1,p0,p2⟩:=hf
    have eb:b2=b:=by
     obtain rfl:=Option.some.inj hD
     have:=V7.symm.trans p1
     simp at this
     exact this.symm
    subst eb
    refine⟨b2,p1,p0,?_⟩
    dsimp only
    rw[sam]
    exact q'
   ·obtain⟨b2,p1,p0,p2⟩:=hf
    refine⟨b2,p1,p0,?_⟩
    dsimp only
    rw[oth 10 (by decide)]
    exact p2.only on (p2.apart q (by decide))
   ·trivial
   ·trivial
  ·obtain⟨e2,e3,e4,dp⟩:=o10.at_ ho hdep
   have V6:tm a 18=_:=hI.vl dp 6 18 rfl rfl
   obtain⟨b,V8,bge,q⟩:=hI.vl dp 8 10 rfl rfl
   rw[hl] at q
   obtain⟨w',r',q',on⟩:=QcJ q (Y i)
   refine wSk (w':=w') ho e4 (by simp[execOp,e3,ev,V8,V6,r']) ?_
   rw[e2]
   refine Inv.none_' hI rfl (Only.below hw bge hw.size on) (fun j dd hj hD hkj hne hf=>?_)
   rcases l11 (show j<11 by omega) with rfl|rfl|rfl|rfl|rfl|rfl|rfl|rfl|rfl|rfl|rfl
   ·exact hf
   ·exact hf
   ·exact hf
   ·exact hf
   ·exact hf
   ·exact hf
   ·exact hf
   ·obtain⟨b2,p1,p0,p2⟩:=hf
    refine⟨b2,p1,p0,?_⟩
    dsimp only
    rw[oth 9 (by decide)]
    exact p2.only on (p2.apart q (by decide))
   ·obtain⟨b2,p1,p0,p2⟩:=hf
    have eb:b2=b:=by
     obtain rfl:=Option.some.inj hD
     have:=V8.symm.trans p1
     simp at this
     exact this.symm
    subst eb
    refine⟨b2,p1,p0,?_⟩
    dsimp only
    rw[sam]
    exact q'
   ·trivial
   ·trivial
 ·intro k a w hall hI
  have all:∀ j,j<11→k j=true:=fun j hj=>hall j (by rw[hsz];exact hj)
  obtain⟨cb,v1,-,q1⟩:∃ b,tm a 9=Pt b∧w0.heap.size≤b∧Blk 23 w b (cond (k 9) M.cc z8):=hI.va all 7 9 rfl rfl
  obtain⟨lb,v2,-,q2⟩:∃ b,tm a 10=Pt b∧w0.heap.size≤b∧Blk 65 w b (cond (k 10) (y9 (Y i)) z9):=hI.va all 8 10 rfl rfl
  rw[all 9 (by decide)] at q1
  rw[all 10 (by decide)] at q2
  exact fin a w cb lb hI.size hI.defers hI.kept v1 v2 hI.world q1 q2
def lzD (i:Nat):Option Nat:=match i with|0=>some 39|1=>some 40|2=>some 41|3=>some 42|4=>some 43|5=>some 44|6=>some 45|7=>some 16|8=>some 17|_=>none
theorem Qnh:∀ i,i<11→∀ j,j<11→lzD i=lzD j→lzD i≠none→i=j:=by decide
theorem Qn8:∀ i,i<11→∀ d,lzD i=some d→d<190:=by
 intro i hi d h
 have:∀ i,i<11→(lzD i).all (fun d=>decide (d<190))=true:=by decide
 have:=this i hi
 rw[h] at this
 simpa using this
def lzF (g:Nat)(M:Md)(E L N O:SL)(Y:Nat→Nat→SL)(B i:Nat)(x:Addr)(k:Nat→Bool)(j:Nat)(q:Value)(w:World):Prop:=match j with
 | 0=>q=Pt B
 | 1=>q=.agg M.cc
 | 2=>q=.pointer (some ⟨B,9,none⟩)
 | 3=>q=.slice (some x) M.m.ln L.c
 | 4=>q=I4 i
 | 5=>q=.pointer (some (x.add (i*9)))
 | 6=>q=.agg (y9 (Y i))
 | 7=>∃ b,q=Pt b∧g≤b∧Blk 23 w b (cond (k 9) M.cc z8)
 | 8=>∃ b,q=Pt b∧g≤b∧Blk 65 w b (cond (k 10) (y9 (Y i)) z9)
 | _=>True
theorem Qk8 {id:Nat}{ops:Array Oper}{Q:Exit→Act→World→Prop}{a0:Act}{w0:World}(M:Md)(E L N O:SL)(Y:Nat→Nat→SL)(B i:Nat)(x:Addr)(U D:Nat→Nat→SL)(hM:Qad w0 E L N O Y U D M.m)(hx:L.a=some x)(hi':i<M.m.ln)(hB:Blk 27 w0 B (M.mx E x L N O))
  (hlow:lowB ops=true) (hsz:ops.size=11)
  (oo:OpS ops 0 39 (.fieldAddr 27 (.tmp 7) 0) []∧OpS ops 1 40 (.load 23 (.tmp 39)) [0]∧OpS ops 2 41 (.fieldAddr 27 (.tmp 7) 2) []∧OpS ops 3 42 (.load 25 (.tmp 41)) [2]∧OpS ops 4 43 (.move (.tmp 1)) []∧OpS ops 5 44 (.indexAddr 25 (.tmp 42) (.tmp 43)) [3,4]∧OpS ops 6 45 (.load 65 (.tmp 44)) [5]∧OpS ops 7 16 (.alloc 23) []∧OpS ops 8 17 (.alloc 65) []∧OpIn ops 9 none (.store 23 (.tmp 16) (.tmp 40)) none [1,7]∧OpIn ops 10 none (.store 65 (.tmp 17) (.tmp 45)) none [6,8])
  (ub:a0.tmps.getD 7 undef=Pt B) (ui:a0.tmps.getD 1 undef=I4 i)
  (hs:190≤a0.tmps.size)
  (fin:∀ a w cb lb,a.tmps.size=a0.tmps.size→a.defers=a0.defers→(∀ s,(∀ i,i<11→lzD i≠some s)→a.tmps.getD s undef=a0.tmps.getD s undef)→tm a 16=Pt cb→tm a 17=Pt lb→Bw w0 w→Blk 23 w cb M.cc→Blk 65 w lb (y9 (Y i))→Q .normal a w):(Code.region id ops true).wp Tryz.prog Q a0 w0:=by
 obtain⟨o0,o1,o2,o3,o4,o5,o6,o7,o8,o9,o10⟩:=oo
 refine wRi (by kernel_rfl) hlow (Inv 11 lzD a0 (fun _ _ w=>Bw w0 w) (lzF w0.heap.size M E L N O Y B i x)) (Inv.start bR.drew) ?_ ?_
 ·intro k i' o a w ho hl hcl hdep hI
  have hi:i'<11:=by rw[←hsz];exact (Array.getElem?_eq_some_iff.1 ho).1
  have ev:∀ (s:Nat),a.eval (.tmp s)=a.tmps.getD s undef:=fun _=>rfl
  have inj:∀ d,lzD i'=some d→∀ j d',j<11→lzD j=some d'→j≠i'→d'≠d:=fun d hd j d' hj hd' hne e=>hne (Qnh j hj i' hi (by rw[hd',hd,e]) (by rw[hd'];simp))
  have kp:∀ s,(∀ i,i<11→lzD i≠some s)→a.tmps.getD s undef=a0.tmps.getD s undef:=hI.kept
  have hw:Bw w0 w:=hI.world
  have oth:∀ j,j≠i'→(k j || j==i')=k j:=fun j hj=>by rw[show (j==i')=false by simp[hj],Bool.or_false]
  have sam:(k i' || i'==i')=true:=by simp
  have U1:=(kp 7 (by decide)).trans ub
  have U2:=(kp 1 (by decide)).trans ui
  have qB:=hB.kept hw
  have hM':=hM.below hw
  have go:∀ {d:Nat}{v:Value}{w':World},lzD i'=some d→i'≠9∧i'≠10→Bw w w'→lzF w0.heap.size M E L N O Y B i x (fun j=>k j || j==i') i' v w'→Inv 11 lzD a0 (fun _ _ w=>Bw w0 w) (lzF w0.heap.size M E L N O Y B i x) (fun j=>k j || j==i') (a.put (some d) v) w':=by
   intro d v w' hD hn hb hF
   refine hI.put hi hD (Nat.lt_of_lt_of_le (Qn8 i' hi d hD) hs) (inj d hD) (bTn hw hb) hF (fun j u hj _ _ hf=>?_)
   unfold lzF at hf ⊢
   dsimp only
   rw[oth 9 (fun e=>hn.1 e.symm),oth 10 (fun e=>hn.2 e.symm)]
   rcases l11 (show j<11 by omega) with rfl|rfl|rfl|rfl|rfl|rfl|rfl|rfl|rfl|rfl|rfl<;>first
    | exact hf
    | (obtain⟨b,q1,q0,q2⟩:=hf;exact⟨b,q1,q0,q2.kept hb⟩)
  rcases l11 (show i'<11 by omega) with rfl|rfl|rfl|rfl|rfl|rfl|rfl|rfl|rfl|rfl|rfl
  ·obtain⟨e2,e3,e4,dp⟩:=o0.at_ ho hdep
   exact wVa (v:=Pt B) (w':=w) ho e4 (by simp[execOp,e3,ev,U1,Qaw B 0 0 (by omega)]) (by rw[e2];exact go rfl (by decide) bR rfl)
  ·obtain⟨e2,e3,e4,dp⟩:=o1.at_ ho hdep
   have V0:tm a 39=_:=hI.vl dp 0 39 rfl rfl
   exact wVa (v:=.agg M.cc) (w':=w) ho e4 (by simp[execOp,e3,ev,V0,Qck qB]) (by rw[e2];exact go rfl (by decide) bR rfl)
  ·obtain⟨e2,e3,e4,dp⟩:=o2.at_ ho hdep
   exact wVa (v:=.pointer (some ⟨B,9,none⟩)) (w':=w) ho e4 (by simp[execOp,e3,ev,U1,Qaw B 2 9 (by omega)]) (by rw[e2];exact go rfl (by decide) bR rfl)
  ·obtain⟨e2,e3,e4,dp⟩:=o3.at_ ho hdep
   have V2:tm a 41=_:=hI.vl dp 2 41 rfl rfl
   have c9:w.cell? ⟨B,9,none⟩=some (.slice (some x) M.m.ln L.c):=qB.cell 9 rfl
   exact wVa (v:=.slice (some x) M.m.ln L.c) (w':=w) ho e4 (by simp[execOp,e3,ev,V2,Qdu c9]) (by rw[e2];exact go rfl (by decide) bR rfl)
  ·obtain⟨e2,e3,e4,dp⟩:=o4.at_ ho hdep
   exact wVa (v:=I4 i) (w':=w) ho e4 (by simp[execOp,e3,ev,U2]) (by rw[e2];exact go rfl (by decide) bR rfl)
  ·obtain⟨e2,e3,e4,dp⟩:=o5.at_ ho hdep
   have V3:tm a 42=_:=hI.vl dp 3 42 rfl rfl
   have V4:tm a 43=_:=hI.vl dp 4 43 rfl rfl
   exact wVa (v:=.pointer (some (x.add (i*9)))) (w':=w) ho e4 (by simp[execOp,e3,ev,V3,V4,QcN hi' w]) (by rw[e2];exact go rfl (by decide) bR rfl)
  ·obtain⟨e2,e3,e4,dp⟩:=o6.at_ ho hdep
   have V5:tm a 44=_:=hI.vl dp 5 44 rfl rfl
   exact wVa (v:=.agg (y9 (Y i))) (w':=w) ho e4 (by simp[execOp,e3,ev,V5,Qds (y:=Y i) (fun j hj=>hM'.cell x hx i hi' j hj)]) (by rw[e2];exact go rfl (by decide) bR rfl)
  ·obtain⟨e2,e3,e4,dp⟩:=o7.at_ ho hdep
   have nd:k 9=false:=by
    cases e:k 9 with
    | false=>rfl
    | true =>
     have y:=hcl.dep' o9 e 7 (by decide)
     rw[hl] at y
     cases y
   refine wVa (v:=Pt w.heap.size) (w':=w.alloc (.cells z8 23)) ho e4 (by simp[execOp,e3,QcQ]) ?_
   rw[e2]
   refine go rfl (by decide) (bNw bR _) ⟨w.heap.size,rfl,hw.size,?_⟩
   dsimp only
   rw[oth 9 (by decide),nd]
   exact Blk.new 23 w _
  ·obtain⟨e2,e3,e4,dp⟩:=o8.at_ ho hdep
   have nd:k 10=false:=by
    cases e:k 10 with
    | false=>rfl
    | true =>
     have y:=hcl.dep' o10 e 8 (by decide)
     rw[hl] at y
     cases y
   refine wVa (v:=Pt w.heap.size) (w':=w.alloc (.cells z9 65)) ho e4 (by simp[execOp,e3,QcP]) ?_
   rw[e2]
   refine go rfl (by decide) (bNw bR _) ⟨w.heap.size,rfl,hw.size,?_⟩
   dsimp only
   rw[oth 10 (by decide),nd]
   exact Blk.new 65 w _
  ·obtain⟨e2,e3,e4,dp⟩:=o9.at_ ho hdep
   have V1:tm a 40=_:=hI.vl dp 1 40 rfl rfl
   obtain⟨b,V7,bge,q⟩:=hI.vl dp 7 16 rfl rfl
   rw[hl] at q
   obtain⟨w',r',q',on⟩:=QcK q M.d M.h M.l M.v M.u M.x M.t M.n
   refine wSk (w':=w') ho e4 (by simp[execOp,e3,ev,V7,V1,r']) ?_
   rw[e2]
   refine Inv.none_' hI rfl (Only.below hw bge hw.size on) (fun j dd hj hD hkj hne hf=>?_)
   rcases l11 (show j<11 by omega) with rfl|rfl|rfl|rfl|rfl|rfl|rfl|rfl|rfl|rfl|rfl
   ·exact hf
   ·exact hf
   ·exact hf
   ·exact hf
   ·exact hf
   ·exact hf
   ·exact hf
   ·obtain⟨b2,p1,p0,p2⟩:=hf
    have eb:b2=b:=by
     obtain rfl:=Option.some.inj hD
     have:=V7.symm.trans p1
     simp at this
     exact this.symm
    subst eb
    refine⟨b2,p1,p0,?_⟩
    dsimp only
    rw[sam]
    exact q'
   ·obtain⟨b2,p1,p0,p2⟩:=hf
    refine⟨b2,p1,p0,?_⟩
    dsimp only
    rw[oth 10 (by decide)]
    exact p2.only on (p2.apart q (by decide))
   ·trivial
   ·trivial
  ·obtain⟨e2,e3,e4,dp⟩:=o10.at_ ho hdep
   have V6:tm a 45=_:=hI.vl dp 6 45 rfl rfl
   obtain⟨b,V8,bge,q⟩:=hI.vl dp 8 17 rfl rfl
   rw[hl] at q
   obtain⟨w',r',q',on⟩:=QcJ q (Y i)
   refine wSk (w':=w') ho e4 (by simp[execOp,e3,ev,V8,V6,r']) ?_
   rw[e2]
   refine Inv.none_' hI rfl (Only.below hw bge hw.size on) (fun j dd hj hD hkj hne hf=>?_)
   rcases l11 (show j<11 by omega) with rfl|rfl|rfl|rfl|rfl|rfl|rfl|rfl|rfl|rfl|rfl
   ·exact hf
   ·exact hf
   ·exact hf
   ·exact hf
   ·exact hf
   ·exact hf
   ·exact hf
   ·obtain⟨b2,p1,p0,p2⟩:=hf
    refine⟨b2,p1,p0,?_⟩
    dsimp only
    rw[oth 9 (by decide)]
    exact p2.only on (p2.apart q (by decide))
   ·obtain⟨b2,p1,p0,p2⟩:=hf
    have eb:b2=b:=by
     obtain rfl:=Option.some.inj hD
     have:=V8.symm.trans p1
     simp at this
     exact this.symm
    subst eb
    refine⟨b2,p1,p0,?_⟩
    dsimp only
    rw[sam]
    exact q'
   ·trivial
   ·trivial
 ·intro k a w hall hI
  have all:∀ j,j<11→k j=true:=fun j hj=>hall j (by rw[hsz];exact hj)
  obtain⟨cb,v1,-,q1⟩:∃ b,tm a 16=Pt b∧w0.heap.size≤b∧Blk 23 w b (cond (k 9) M.cc z8):=hI.va all 7 16 rfl rfl
  obtain⟨lb,v2,-,q2⟩:∃ b,tm a 17=Pt b∧w0.heap.size≤b∧Blk 65 w b (cond (k 10) (y9 (Y i)) z9):=hI.va all 8 17 rfl rfl
  rw[all 9 (by decide)] at q1
  rw[all 10 (by decide)] at q2
  exact fin a w cb lb hI.size hI.defers hI.kept v1 v2 hI.world q1 q2
section
def Md.bare (M:Md):Md:={ M with r:=0,s:=0,a:=noA }
variable {M:Md}
end
end Go.Proofs.YthliomlmhfjhnaaGreat

/- Texts put together. -/
import Derived.Test.YtbkjhfmehemgpaaGreatFb33
import Derived.Test.YtbkjhfmehemgpaaGreatFb25
namespace Go.Proofs.YtbkjhfmehemgpaaGreat
set_option maxRecDepth 20000
set_option maxHeartbeats 16000000
open Go.ChangeShapes Go.WideShapes Go.ChangeAt Go.RowKit
set_option linter.unusedVariables false
set_option linter.unusedSimpArgs false
structure Md where
 d:Int
 h:Int
 l:Int
 v:Int
 u:Int
 x:Int
 t:Int
 n:Int
 m:ModV
 r:Int
 s:Int
 a:AdV
def Md.D (M:Md):Nat:=M.d.toNat
def Md.H (M:Md):Nat:=M.h.toNat
def plusL (xs ys:List Int):List Int:=(List.range xs.length).map (plusZ xs ys)
def graftL (M:Md)(i j:Nat)(y hh:List Int):List Int:=if M.r=0 then y else plusL y (applR (M.a.f i j) (M.a.f i (j+1)) M.r M.s hh)
def nrmL (M:Md)(i:Nat)(x:List Int):List Int:=rmsZ x (M.m.f i 0) M.D
def qL (M:Md)(p:Int)(i:Nat)(x:List Int):List Int:=headsL (graftL M i 0 (matL (M.m.f i 1) (nrmL M i x)) (nrmL M i x)) p (M.D/M.H) M.H
def kL (M:Md)(p:Int)(i:Nat)(x:List Int):List Int:=headsL (matL (M.m.f i 2) (nrmL M i x)) p (M.D/M.H) M.H
def vL (M:Md)(i:Nat)(x:List Int):List Int:=graftL M i 2 (matL (M.m.f i 3) (nrmL M i x)) (nrmL M i x)
def partL (P:Nat→List Int)(c f d:Nat)(last:List Int)(r:Nat):List Int:=if r<c then ((P r).drop f).take d else last
def keysL (M:Md)(p:Int)(P:Nat→List Int)(c i:Nat)(x:List Int):Nat→List Int:=partL P c (2*i*M.D) M.D (kL M p i x)
def valsL (M:Md)(P:Nat→List Int)(c i:Nat)(x:List Int):Nat→List Int:=partL P c (2*i*M.D+M.D) M.D (vL M i x)
def oL (M:Md)(p:Int)(P:Nat→List Int)(c i:Nat)(x:List Int):List Int:=allL (qL M p i x) (keysL M p P c i x) (valsL M P c i x) (M.D/M.H) (c+1) M.H
def w1L (M:Md)(i:Nat)(x o:List Int):List Int:=plusL x (matL (M.m.f i 4) o)
def wkL (M:Md)(i:Nat)(x o:List Int):List Int:=plusL (w1L M i x o) (mixL (M.m.f i 6) (M.m.un i) (M.m.u i) (M.m.d i) M.t (rmsZ (w1L M i x o) (M.m.f i 5) M.D))
def embL (M:Md)(tok:Nat):List Int:=(List.range M.D).map fun j=>M.m.e.getD (tok*M.D+j) 0*1024
def stX (M:Md)(p:Int)(P:Nat→List Int)(c tok:Nat):Nat→List Int
 | 0=>embL M tok
 | i+1=>wkL M i (stX M p P c tok i) (oL M p P c i (stX M p P c tok i))
def stR (M:Md)(p:Int)(P:Nat→List Int)(c tok:Nat):Nat→List Int
 | 0=>[]
 | i+1=>stR M p P c tok i++(kL M p i (stX M p P c tok i)++vL M i (stX M p P c tok i))
def rowL (M:Md)(p:Int)(P:Nat→List Int)(c tok:Nat):List Int:=stR M p P c tok M.m.ln
def outL (M:Md)(p:Int)(P:Nat→List Int)(c tok:Nat):List Int:=rmsZ (stX M p P c tok M.m.ln) M.m.nm M.D
structure MdOk (M:Md):Prop where
 ok:okB M.d M.h M.l M.v M.u M.x M.t M.n=true
 ck:checkB M.d M.h M.l M.v M.u M.x M.t M.n M.m=0
 ad:M.r≠0→checkA M.r M.s M.d M.h M.l M.v M.u M.x M.t M.n M.a=0
structure MdFit (M:Md):Prop where
 eD:M.d=(M.D:Int)
 d0:2≤M.D
 d1:M.D≤8
 eH:M.h=(M.H:Int)
 h0:1≤M.H
 h1:M.H≤8
 dh:M.D%M.H=0
 ev:M.D/M.H%2=0
 el:M.l=(M.m.ln:Int)
 l0:1≤M.m.ln
 l1:M.m.ln≤2
 v0:2≤M.v
 v1:M.v≤16
 n0:0≤M.n
 n1:M.n≤16
 e:(M.m.e.length:Int)=M.v*M.D
 nm:M.m.nm.length=M.D
 o:(M.m.o.length:Int)=M.v*M.D
 f0:∀ i,i<M.m.ln→(M.m.f i 0).length=M.D
 fq:∀ i,i<M.m.ln→∀ j,1≤j→j≤4→(M.m.f i j).length=M.D*M.D
 f5:∀ i,i<M.m.ln→(M.m.f i 5).length=M.D
 f6:∀ i,i<M.m.ln→((M.m.f i 6).length:Int)=M.x*M.D
 un:∀ i,i<M.m.ln→M.m.un i=netsN M.x
 dn:∀ i,i<M.m.ln→M.m.dn i=netsN M.x
 u:∀ i,i<M.m.ln→∀ j,j<netsN M.x→((M.m.u i j).length:Int)=M.u*M.D
 d:∀ i,i<M.m.ln→∀ j,j<netsN M.x→((M.m.d i j).length:Int)=M.u*M.D
 u0:1≤M.u
 u1:M.u≤8
 xt:(M.x=0∧M.t=0)∨(2≤M.x∧M.x≤4∧1≤M.t∧M.t≤M.x)
theorem MdOk.fit {M:Md}(h:MdOk M):MdFit M:=by
 have r:=right_of h.ok
 obtain⟨good,bad⟩:=chk_iff h.ok M.m
 have all:AllR M.l.toNat M.d.toNat (M.d*M.d).toNat (M.x*M.d).toNat (M.u*M.d).toNat (M.v*M.d).toNat (netsN M.x) M.m:=by
  rcases Classical.em (AllR M.l.toNat M.d.toNat (M.d*M.d).toNat (M.x*M.d).toNat (M.u*M.d).toNat (M.v*M.d).toNat (netsN M.x) M.m) with a|a
  ·exact a
  ·have:=bad a
   rw[h.ck] at this
   cases this
 obtain⟨⟨a1,a2,a3,a4⟩,lay⟩:=all
 have hd0:=r.d0;have hd1:=r.d1;have l0:=r.l0;have l1:=r.l1;have v0:=r.v0;have v1:=r.v1;have u0:=r.u0;have u1:=r.u1;have x0:=r.x0;have x1:=r.x1;have h0:=r.h0;have h1:=r.h1
 have eD:M.d=(M.D:Int):=by unfold Md.D;omega
 have eH:M.h=(M.H:Int):=by unfold Md.H;omega
 have okk:=h.ok
 unfold okB headsB expertsB at okk
 simp only[Bool.and_eq_true,decide_eq_true_eq] at okk
 obtain⟨⟨b1,b2,b3,b4,b5⟩,b6,⟨b7,b8⟩,⟨b9,b10⟩,⟨b11,b12⟩,b13,b14⟩:=okk
 have md:M.D%M.H=0:=by
  have e:((M.D%M.H:Nat):Int)=0:=by rw[Int.natCast_emod,←eD,←eH];exact b4
  omega
 have mev:M.D/M.H%2=0:=by
  have e:((M.D/M.H%2:Nat):Int)=0:=by rw[Int.natCast_emod,Int.natCast_ediv,←eD,←eH];exact b5
  omega
 have p1:0≤M.v*M.d:=Int.mul_nonneg (by omega) (by omega)
 have p2:0≤M.x*M.d:=Int.mul_nonneg (by omega) (by omega)
 have p3:0≤M.u*M.d:=Int.mul_nonneg (by omega) (by omega)
 have p4:(M.d*M.d).toNat=M.D*M.D:=by
  have q:M.d*M.d=((M.D*M.D:Nat):Int):=by rw[Int.natCast_mul,←eD]
  rw[q]
  exact Int.toNat_natCast _
 refine⟨eD,by omega,by omega,eH,by omega,by omega,md,mev,by omega,by omega,by omega,v0,v1,by omega,by omega,?_,a3,?_,?_,?_,?_,?_,?_,?_,?_,?_,u0,u1,b6⟩
 ·rw[a2,←eD];omega
 ·rw[a4,←eD];omega
 ·intro i hi;exact ((lay i hi).1.1 0 (by omega))
 ·intro i hi j hj hj'
  rw[(lay i hi).1.1 j (by omega)]
  unfold preC
  rw[if_neg (by omega),if_neg (by omega),p4]
 ·intro i hi;exact ((lay i hi).1.1 5 (by omega))
 ·intro i hi
  rw[(lay i hi).1.1 6 (by omega)]
  show ((M.x*M.d).toNat:Int)=_
  rw[←eD];omega
 ·intro i hi;exact (lay i hi).1.2.1
 ·intro i hi;exact (lay i hi).1.2.2
 ·intro i hi j hj;rw[((lay i hi).2 j hj).1,←eD];omega
 ·intro i hi j hj;rw[((lay i hi).2 j hj).2,←eD];omega
structure AdFit (M:Md) (R:Nat):Prop where
 er:M.r=(R:Int)
 r0:1≤R
 r1:R≤4
 s0:0≤M.s
 s1:M.s≤8
 ln:M.a.ln=M.m.ln
 f:∀ i,i<M.m.ln→∀ j,j<4→(M.a.f i j).length=R*M.D
theorem MdOk.adapter {M:Md}(h:MdOk M)(hr:M.r≠0):∃ R,AdFit M R:=by
 have F:=h.fit
 have c:=h.ad hr
 unfold checkA at c
 by_cases o:okA M.r M.s M.d M.h M.l M.v M.u M.x M.t M.n=true
 ·rw[if_pos o] at c
  by_cases q:(M.a.ln:Int)=M.l∧lensA M.r M.d M.a=true
  ·obtain⟨q1,q2⟩:=q
   have q3:=lensA_iff.1 q2
   unfold okA at o
   simp only[Bool.and_eq_true,decide_eq_true_eq] at o
   obtain⟨-,o1,o2,o3,o4⟩:=o
   have el:=F.el
   refine⟨M.r.toNat,by omega,by omega,by omega,o3,o4,by omega,fun i hi j hj=>?_⟩
   have:=q3 i (by omega) j hj
   rw[F.eD,show M.r=(M.r.toNat:Int) by omega,←Int.natCast_mul] at this
   exact Int.ofNat.inj this
  ·rw[if_neg q] at c
   cases c
 ·rw[if_neg o] at c
  cases c
theorem fitB_of {n d:Nat}{r:Int}(hd:0<d)(h:(n:Int)=r*d)(hr:0≤r):fitB n r d=true:=by
 obtain⟨R,rfl⟩:∃ R:Nat,r=R:=⟨r.toNat,by omega⟩
 have e:n=R*d:=by rw[←Int.natCast_mul] at h;exact Int.ofNat.inj h
 subst e
 exact decide_eq_true ⟨hd,Nat.mul_mod_left _ _,by rw[Nat.mul_div_cancel _ hd]⟩
theorem plusL_length (xs ys:List Int):(plusL xs ys).length=xs.length:=by simp[plusL]
theorem rmsZ_length (xs ws:List Int)(n:Nat):(rmsZ xs ws n).length=n:=by simp[rmsZ]
theorem nrmL_length (M:Md)(i:Nat)(x:List Int):(nrmL M i x).length=M.D:=rmsZ_length _ _ _
theorem graftL_length (M:Md)(i j:Nat)(y hh:List Int):(graftL M i j y hh).length=y.length:=by
 unfold graftL
 split
 ·rfl
 ·exact plusL_length _ _
theorem hd_mul {M:Md}(F:MdFit M):M.H*(M.D/M.H)=M.D:=by
 have:=F.dh
 rw[Nat.mul_comm]
 exact Nat.div_mul_cancel (Nat.dvd_of_mod_eq_zero this)
theorem mat_length {M:Md}(F:MdFit M){i:Nat}(hi:i<M.m.ln){j:Nat}(h1:1≤j)(h4:j≤4){x:List Int}(hx:x.length=M.D):(matL (M.m.f i j) x).length=M.D:=by
 have:=F.d0
 rw[matL_length,F.fq i hi j h1 h4,hx,Nat.mul_div_cancel _ (by omega)]
theorem kL_length {M:Md}(F:MdFit M)(p:Int)(i:Nat)(x:List Int):(kL M p i x).length=M.D:=by
 unfold kL
 rw[headsL_length,hd_mul F]
theorem vL_length {M:Md}(F:MdFit M){i:Nat}(hi:i<M.m.ln)(x:List Int):(vL M i x).length=M.D:=by
 unfold vL
 rw[graftL_length,mat_length F hi (by omega) (by omega) (nrmL_length _ _ _)]
theorem embL_length (M:Md)(tok:Nat):(embL M tok).length=M.D:=by simp[embL]
theorem stR_length {M:Md}(F:MdFit M)(p:Int)(P:Nat→List Int)(c tok k:Nat)(hk:k≤M.m.ln):(stR M p P c tok k).length=2*k*M.D:=by
 induction k with
 | zero=>simp[stR]
 | succ k ih =>
  rw[stR,List.length_append,List.length_append,ih (by omega),kL_length F,vL_length F (by omega),show 2*(k+1)=2*k+2 by omega,Nat.add_mul]
  omega
theorem mix_fits {M:Md}(F:MdFit M){i:Nat}(hi:i<M.m.ln){xs:List Int}(hx:xs.length=M.D):mixE (M.m.f i 6) (M.m.un i) (M.m.dn i) (M.m.u i) (M.m.d i) M.u M.t xs=0:=by
 have d0:=F.d0
 have u0:=F.u0
 have hn:netsN M.x=(max M.x 1).toNat:=rfl
 have one:∀ j,j<netsN M.x→oneB (M.m.u i j) (M.m.d i j) M.u xs=true:=fun j hj=>by
  have h1:=F.u i hi j hj
  have h2:=F.d i hi j hj
  have f1:fitB (M.m.u i j).length M.u xs.length=true:=by rw[hx];exact fitB_of (by omega) h1 (by omega)
  obtain⟨U,hU⟩:∃ U:Nat,M.u=U:=⟨M.u.toNat,by omega⟩
  have e1:(M.m.u i j).length=U*M.D:=by rw[hU,←Int.natCast_mul] at h1;exact Int.ofNat.inj h1
  have e2:(hidL (M.m.u i j) xs).length=U:=by rw[hidL_length,hx,e1,Nat.mul_div_cancel _ (by omega)]
  have f2:fitB (M.m.d i j).length (xs.length:Int) (hidL (M.m.u i j) xs).length=true:=by
   rw[e2,hx]
   refine fitB_of (by omega) ?_ (by omega)
   rw[h2,hU,Int.mul_comm]
  unfold oneB
  rw[f1,f2]
  rfl
 unfold mixE
 rw[F.un i hi,F.dn i hi,if_neg (by rcases F.xt with⟨a,b⟩|⟨a,b,c,e⟩<;>omega)]
 rcases F.xt with⟨a,b⟩|⟨a,b,c,e⟩
 ·rw[if_pos (by omega),if_pos (one 0 (by omega))]
 ·rw[if_neg (by omega)]
  have en:((netsN M.x:Nat):Int)=M.x:=by omega
  have rb:routeB (M.m.f i 6) (netsN M.x) M.t xs=true:=by
   unfold routeB
   rw[decide_eq_true c,decide_eq_true (by omega),Bool.true_and,Bool.true_and,en,hx]
   exact fitB_of (by omega) (F.f6 i hi) (by omega)
  rw[if_neg (by rw[rb];decide),if_pos]
  unfold restB
  refine List.all_eq_true.2 fun j hj=>?_
  have:=plc_lt rb (j:=j) (by simpa using hj)
  exact one _ (by omega)
theorem appl_ok {M:Md}(F:MdFit M){R:Nat}(A:AdFit M R){i:Nat}(hi:i<M.m.ln){j:Nat}(hj:j<3){xs:List Int}(hx:xs.length=M.D):applOK (M.a.f i j) (M.a.f i (j+1)) M.r xs:=by
 have d0:=F.d0
 have r0:=A.r0
 have e1:=A.f i hi j (by omega)
 have e2:=A.f i hi (j+1) (by omega)
 have q:(M.a.f i j).length/xs.length=R:=by rw[e1,hx,Nat.mul_div_cancel _ (by omega)]
 refine⟨?_,?_⟩
 ·rw[hx,e1,A.er]
  exact⟨by omega,Nat.mul_mod_left _ _,by rw[Nat.mul_div_cancel _ (by omega)]⟩
 ·rw[q,e2,hx]
  exact⟨by omega,Nat.mul_mod_right _ _,by rw[Nat.mul_div_cancel_left _ (by omega)]⟩
def In32 (z:Int):Prop:=-2147483648≤z∧z≤2147483647
theorem in_clamp (z:Int):In32 (cZ z):=cZb z
theorem in_plusL (xs ys:List Int):∀ z∈plusL xs ys,In32 z:=fun z hz=>by
 obtain⟨y,_,rfl⟩:=List.mem_map.1 hz
 exact in_clamp _
theorem in_matL (ws xs:List Int):∀ z∈matL ws xs,In32 z:=fun z hz=>by
 obtain⟨y,_,rfl⟩:=List.mem_map.1 hz
 exact in_clamp _
theorem in_turnZ (xs:List Int)(p:Int)(n:Nat):∀ z∈turnZ xs p n,In32 z:=fun z hz=>by
 obtain⟨y,_,rfl⟩:=List.mem_map.1 hz
 unfold turnF
 split<;>exact in_clamp _
theorem in_headsL (xs:List Int)(p:Int)(d m:Nat):∀ z∈headsL xs p d m,In32 z:=by
 induction m with
 | zero=>intro z hz;simp[headsL] at hz
 | succ m ih =>
  intro z hz
  rw[headsL,List.mem_append] at hz
  rcases hz with h|h
  ·exact ih z h
  ·exact in_turnZ _ _ _ z h
theorem in_vL (M:Md)(i:Nat)(x:List Int):∀ z∈vL M i x,In32 z:=by
 unfold vL graftL
 split
 ·exact in_matL _ _
 ·exact in_plusL _ _
theorem in_stR (M:Md)(p:Int)(P:Nat→List Int)(c tok k:Nat):∀ z∈stR M p P c tok k,In32 z:=by
 induction k with
 | zero=>intro z hz;simp[stR] at hz
 | succ k ih =>
  intro z hz
  rw[stR,List.mem_append,List.mem_append] at hz
  rcases hz with h|h|h
  ·exact ih z h
  ·exact in_headsL _ _ _ _ z h
  ·exact in_vL _ _ _ z h
theorem In32.wf {z:Int}(h:In32 z):(Lit.int .i64 z).wf=true:=WalkArith.wf_i64 ⟨by have:=h.1;omega,by have:=h.2;omega⟩
theorem partL_congr {P P':Nat→List Int}{c f d:Nat}{last last':List Int}(h:∀ r,r<c→P r=P' r)(hl:last=last'):partL P c f d last=partL P' c f d last':=by
 funext r
 unfold partL
 by_cases hr:r<c
 ·rw[if_pos hr,if_pos hr,h r hr]
 ·rw[if_neg hr,if_neg hr,hl]
theorem oL_congr (M:Md)(p:Int){P P':Nat→List Int}{c:Nat}(h:∀ r,r<c→P r=P' r)(i:Nat)(x:List Int):oL M p P c i x=oL M p P' c i x:=by
 unfold oL keysL valsL
 rw[partL_congr h rfl,partL_congr h rfl]
theorem stX_congr (M:Md)(p:Int){P P':Nat→List Int}{c:Nat}(h:∀ r,r<c→P r=P' r)(tok k:Nat):stX M p P c tok k=stX M p P' c tok k:=by
 induction k with
 | zero=>rfl
 | succ k ih=>rw[stX,stX,ih,oL_congr M p h]
theorem stR_congr (M:Md)(p:Int){P P':Nat→List Int}{c:Nat}(h:∀ r,r<c→P r=P' r)(tok k:Nat):stR M p P c tok k=stR M p P' c tok k:=by
 induction k with
 | zero=>rfl
 | succ k ih=>rw[stR,stR,ih,stX_congr M p h]
theorem rowL_congr (M:Md)(p:Int){P P':Nat→List Int}{c:Nat}(h:∀ r,r<c→P r=P' r)(tok:Nat):rowL M p P c tok=rowL M p P' c tok:=stR_congr M p h tok _
theorem outL_congr (M:Md)(p:Int){P P':Nat→List Int}{c:Nat}(h:∀ r,r<c→P r=P' r)(tok:Nat):outL M p P c tok=outL M p P' c tok:=by unfold outL;rw[stX_congr M p h]
def saw (M:Md)(k:Nat):Nat:=(seeZ k M.n).toNat
theorem saw_le (M:Md)(k:Nat):saw M k≤k:=by
 unfold saw seeZ
 split
 ·omega
 ·split<;>omega
theorem saw_int (M:Md)(k:Nat):seeZ k M.n=(saw M k:Int):=by
 unfold saw seeZ
 split
 ·rfl
 ·split
  ·rfl
  ·omega
def runF (M:Md)(T:Nat→Nat):Nat→Nat→List Int × List Int
 | 0,_=>([],[])
 | k+1,j=>if j<k then runF M T k j else (rowL M k (fun r=>(runF M T k (saw M k+r)).1) (k-saw M k) (T k),outL M k (fun r=>(runF M T k (saw M k+r)).1) (k-saw M k) (T k))
def rowF (M:Md)(T:Nat→Nat)(j:Nat):List Int:=(runF M T (j+1) j).1
def outF (M:Md)(T:Nat→Nat)(j:Nat):List Int:=(runF M T (j+1) j).2
def seenF (M:Md)(T:Nat→Nat)(k r:Nat):List Int:=rowF M T (saw M k+r)
theorem runF_eq (M:Md)(T:Nat→Nat)(k j:Nat)(h:j<k):runF M T k j=runF M T (j+1) j:=by
 induction k with
 | zero=>omega
 | succ k ih =>
  by_cases e:j=k
  ·subst e;rfl
  ·rw[runF,if_pos (by omega)]
   exact ih (by omega)
theorem rowF_eq (M:Md)(T:Nat→Nat)(k:Nat):rowF M T k=rowL M k (seenF M T k) (k-saw M k) (T k):=by
 unfold rowF
 rw[runF,if_neg (by omega)]
 exact rowL_congr M k (fun r hr=>by rw[runF_eq M T k _ (by omega)];rfl) _
theorem outF_eq (M:Md)(T:Nat→Nat)(k:Nat):outF M T k=outL M k (seenF M T k) (k-saw M k) (T k):=by
 unfold outF
 rw[runF,if_neg (by omega)]
 exact outL_congr M k (fun r hr=>by rw[runF_eq M T k _ (by omega)];rfl) _
theorem rowF_length {M:Md}(F:MdFit M)(T:Nat→Nat)(k:Nat):(rowF M T k).length=2*M.m.ln*M.D:=by
 rw[rowF_eq]
 exact stR_length F _ _ _ _ _ (Nat.le_refl _)
theorem outF_length (M:Md)(T:Nat→Nat)(k:Nat):(outF M T k).length=M.D:=by
 rw[outF_eq]
 exact rmsZ_length _ _ _
def tokF (ts:List Int)(k:Nat):Nat:=(ts.getD k 0).toNat
def tokB (M:Md)(ts:List Int)(k:Nat):Bool:=decide (0≤ts.getD k 0) && decide (ts.getD k 0<M.v)
def runB (M:Md)(ts:List Int)(n:Nat):Bool:=decide (n≤24) && (List.range n).all (tokB M ts)
theorem runB_yes {M:Md}{ts:List Int}{n:Nat}(h:runB M ts n=true):n≤24∧∀ k,k<n→0≤ts.getD k 0∧ts.getD k 0<M.v:=by
 unfold runB at h
 rw[Bool.and_eq_true,decide_eq_true_eq,List.all_eq_true] at h
 refine⟨h.1,fun k hk=>?_⟩
 have:=h.2 k (List.mem_range.2 hk)
 unfold tokB at this
 simpa [Bool.and_eq_true] using this
theorem inRange_walk (B:Bool)(R S d h l v u x t n:Int)(w:World)
  (k36:∀ w,Calls Tryz.prog 62 #[.agg #[.int .i64 d,.int .i64 h,.int .i64 l,.int .i64 v,.int .i64 u,.int .i64 x,.int .i64 t,.int .i64 n]] w fun e w'=>e=.returned (.bool B)∧Below w.heap.size w w') (V:Bool) (hV:(B && (decide (1≤R) && (decide (R≤4) && (decide (0≤S) && decide (S≤8)))))=V) :
  Calls Tryz.prog 70 #[.int .i64 R,.int .i64 S,.agg #[.int .i64 d,.int .i64 h,.int .i64 l,.int .i64 v,.int .i64 u,.int .i64 x,.int .i64 t,.int .i64 n]] w fun e w'=>e=.returned (.bool V)∧Below w.heap.size w w':=by
 have hb:=bNw (Below.refl w.heap.size w) (.cells #[.int .i64 d,.int .i64 h,.int .i64 l,.int .i64 v,.int .i64 u,.int .i64 x,.int .i64 t,.int .i64 n] 23)
 subst hV
 cases B with
 | false =>
  go_enter Tryz.func70,Tryz.ntmps70
  go_wp2_with (first|(go_at_call 62;refine (k36 _).mono ?_;rintro e W1 ⟨rfl,h1⟩;replace hb:=bTn hb h1;clear h1))
  go_ret
  exact⟨rfl,hb⟩
 | true =>
  by_cases r1:1≤R
  ·by_cases r2:R≤4
   ·by_cases r3:0≤S
    ·simp only[r1,r2,r3,decide_true,Bool.true_and]
     go_enter Tryz.func70,Tryz.ntmps70
     go_wp2_with (first|(go_at_call 62;refine (k36 _).mono ?_;rintro e W1 ⟨rfl,h1⟩;replace hb:=bTn hb h1;clear h1))
     go_ret
     exact⟨rfl,hb⟩
    ·simp only[r1,r2,r3,decide_true,decide_false,Bool.and_false,Bool.false_and]
     go_enter Tryz.func70,Tryz.ntmps70
     go_wp2_with (first|(go_at_call 62;refine (k36 _).mono ?_;rintro e W1 ⟨rfl,h1⟩;replace hb:=bTn hb h1;clear h1))
     go_ret
     exact⟨rfl,hb⟩
   ·simp only[r1,r2,decide_true,decide_false,Bool.and_false,Bool.false_and]
    go_enter Tryz.func70,Tryz.ntmps70
    go_wp2_with (first|(go_at_call 62;refine (k36 _).mono ?_;rintro e W1 ⟨rfl,h1⟩;replace hb:=bTn hb h1;clear h1))
    go_ret
    exact⟨rfl,hb⟩
  ·simp only[r1,decide_false,Bool.and_false,Bool.false_and]
   go_enter Tryz.func70,Tryz.ntmps70
   go_wp2_with (first|(go_at_call 62;refine (k36 _).mono ?_;rintro e W1 ⟨rfl,h1⟩;replace hb:=bTn hb h1;clear h1))
   go_ret
   exact⟨rfl,hb⟩
theorem inRange_call (R S d h l v u x t n:Int)(w:World) :
  Calls Tryz.prog 70 #[.int .i64 R,.int .i64 S,.agg #[.int .i64 d,.int .i64 h,.int .i64 l,.int .i64 v,.int .i64 u,.int .i64 x,.int .i64 t,.int .i64 n]] w fun e w'=>e=.returned (.bool (okA R S d h l v u x t n))∧Below w.heap.size w w' :=
 inRange_walk (okB d h l v u x t n) R S d h l v u x t n w (config_call d h l v u x t n) _ rfl
theorem refRanges_walk (B:Bool)(R S d h l v u x t n:Int)(w:World)
  (k41:∀ w,Calls Tryz.prog 46 #[.agg #[.int .i64 d,.int .i64 h,.int .i64 l,.int .i64 v,.int .i64 u,.int .i64 x,.int .i64 t,.int .i64 n]] w fun e w'=>e=.returned (.bool B)∧Below w.heap.size w w') (V:Bool) (hV:(B && (decide (1≤R) && (decide (R≤4) && (decide (0≤S) && decide (S≤8)))))=V) :
  Calls Tryz.prog 47 #[.int .i64 R,.int .i64 S,.agg #[.int .i64 d,.int .i64 h,.int .i64 l,.int .i64 v,.int .i64 u,.int .i64 x,.int .i64 t,.int .i64 n]] w fun e w'=>e=.returned (.bool V)∧Below w.heap.size w w':=by
 have hb:=bNw (Below.refl w.heap.size w) (.cells #[.int .i64 d,.int .i64 h,.int .i64 l,.int .i64 v,.int .i64 u,.int .i64 x,.int .i64 t,.int .i64 n] 23)
 subst hV
 cases B with
 | false =>
  go_enter Tryz.func47,Tryz.ntmps47
  go_wp2_with (first|(go_at_call 46;refine (k41 _).mono ?_;rintro e W1 ⟨rfl,h1⟩;replace hb:=bTn hb h1;clear h1))
  go_ret
  exact⟨rfl,hb⟩
 | true =>
  by_cases r1:1≤R
  ·by_cases r2:R≤4
   ·by_cases r3:0≤S
    ·simp only[r1,r2,r3,decide_true,Bool.true_and]
     go_enter Tryz.func47,Tryz.ntmps47
     go_wp2_with (first|(go_at_call 46;refine (k41 _).mono ?_;rintro e W1 ⟨rfl,h1⟩;replace hb:=bTn hb h1;clear h1))
     go_ret
     exact⟨rfl,hb⟩
    ·simp only[r1,r2,r3,decide_true,decide_false,Bool.and_false,Bool.false_and]
     go_enter Tryz.func47,Tryz.ntmps47
     go_wp2_with (first|(go_at_call 46;refine (k41 _).mono ?_;rintro e W1 ⟨rfl,h1⟩;replace hb:=bTn hb h1;clear h1))
     go_ret
     exact⟨rfl,hb⟩
   ·simp only[r1,r2,decide_true,decide_false,Bool.and_false,Bool.false_and]
    go_enter Tryz.func47,Tryz.ntmps47
    go_wp2_with (first|(go_at_call 46;refine (k41 _).mono ?_;rintro e W1 ⟨rfl,h1⟩;replace hb:=bTn hb h1;clear h1))
    go_ret
    exact⟨rfl,hb⟩
  ·simp only[r1,decide_false,Bool.and_false,Bool.false_and]
   go_enter Tryz.func47,Tryz.ntmps47
   go_wp2_with (first|(go_at_call 46;refine (k41 _).mono ?_;rintro e W1 ⟨rfl,h1⟩;replace hb:=bTn hb h1;clear h1))
   go_ret
   exact⟨rfl,hb⟩
theorem refRanges_call (R S d h l v u x t n:Int)(w:World) :
  Calls Tryz.prog 47 #[.int .i64 R,.int .i64 S,.agg #[.int .i64 d,.int .i64 h,.int .i64 l,.int .i64 v,.int .i64 u,.int .i64 x,.int .i64 t,.int .i64 n]] w fun e w'=>e=.returned (.bool (okA R S d h l v u x t n))∧Below w.heap.size w w' :=
 refRanges_walk (okB d h l v u x t n) R S d h l v u x t n w (refConfig_call d h l v u x t n) _ rfl
structure RightA (R S d l:Int):Prop where
 r0:1≤R
 r1:R≤4
 s0:0≤S
 s1:S≤8
 d0:2≤d
 d1:d≤8
 l0:1≤l
 l1:l≤2
theorem listSize_call (R d h l v u x t n:Int)(N:Int)(hN:R*d=N)(h0:-9223372036854775808≤N)(h1:N≤9223372036854775807)(w:World) :
  Calls Tryz.prog 72 #[.int .i64 R,.agg #[.int .i64 d,.int .i64 h,.int .i64 l,.int .i64 v,.int .i64 u,.int .i64 x,.int .i64 t,.int .i64 n]] w fun e w'=>e=.returned (.int .i64 N)∧Below w.heap.size w w':=by
 have hb:=bNw (Below.refl w.heap.size w) (.cells #[.int .i64 d,.int .i64 h,.int .i64 l,.int .i64 v,.int .i64 u,.int .i64 x,.int .i64 t,.int .i64 n] 23)
 go_enter Tryz.func72,Tryz.ntmps72
 go_wp2
 go_ret
 exact⟨rfl,hb⟩
theorem info122:(Tryz.prog.info? 122).map (fun i=>(i.zero,i.size,i.bytes))=some (some (.pointer none),1,8):=by kernel_rfl
theorem index_all (p0 p1 p2 p3:Value):(∀ w:World,(Instr.index 124 (.agg #[p0,p1,p2,p3]) (.int .i64 0)).run Tryz.prog w=.ok p0 w)∧(∀ w:World,(Instr.index 124 (.agg #[p0,p1,p2,p3]) (.int .i64 1)).run Tryz.prog w=.ok p1 w)∧(∀ w:World,(Instr.index 124 (.agg #[p0,p1,p2,p3]) (.int .i64 2)).run Tryz.prog w=.ok p2 w)∧(∀ w:World,(Instr.index 124 (.agg #[p0,p1,p2,p3]) (.int .i64 3)).run Tryz.prog w=.ok p3 w):=by
 obtain⟨i,hi,hzz⟩:=Option.map_eq_some_iff.1 info122
 simp only[Prod.mk.injEq] at hzz
 refine⟨?_,?_,?_,?_⟩<;>intro w<;>simp[Instr.index,run_underlying Tryz.underlying124,asIntOf,go_sem,typeInfo,sizeOf,hi,hzz.2.1]
theorem lists_call (P:Addr)(w:World):Calls Tryz.prog 71 #[.pointer (some P)] w fun e w'=>e=.returned (.agg #[.pointer (some P),.pointer (some ⟨P.block,P.off+1,none⟩),.pointer (some ⟨P.block,P.off+2,none⟩),.pointer (some ⟨P.block,P.off+3,none⟩)])∧Below w.heap.size w w':=by
 go_enter Tryz.func71,Tryz.ntmps71
 go_wp2
 go_region_held3 (fun W=>True) (trivial) (first|fail)
 go_wp2
 refine bodyPost_ret (v:=.agg #[.pointer (some P),.pointer (some ⟨P.block,P.off+1,none⟩),.pointer (some ⟨P.block,P.off+2,none⟩),.pointer (some ⟨P.block,P.off+3,none⟩)]) ?_ rfl ⟨rfl,bDr (bNw (Below.refl _ w) _) ⟨1,rfl⟩⟩
 simp[results,Tryz.results71,go_sem]
def lkD (i:Nat):Option Nat:=match i with|0=>some 17|1=>some 18|2=>some 19|3=>some 20|4=>some 21|5=>some 22|6=>some 23|7=>some 13|8=>some 14|_=>none
theorem lkD_inj:∀ i,i<11→∀ j,j<11→lkD i=lkD j→lkD i≠none→i=j:=by decide
theorem lkD_lt:∀ i,i<11→∀ d,lkD i=some d→d<118:=by
 intro i hi d h
 have:∀ i,i<11→(lkD i).all (fun d=>decide (d<118))=true:=by decide
 have:=this i hi
 rw[h] at this
 simpa using this
def lkF (g:Nat)(M:Md)(E L N O:SL)(Y:Nat→Nat→SL)(B i:Nat)(x:Addr)(k:Nat→Bool)(j:Nat)(q:Value)(w:World):Prop:=match j with
 | 0=>q=.pointer (some ⟨B,0,none⟩)
 | 1=>q=.agg #[.int .i64 M.d,.int .i64 M.h,.int .i64 M.l,.int .i64 M.v,.int .i64 M.u,.int .i64 M.x,.int .i64 M.t,.int .i64 M.n]
 | 2=>q=.pointer (some ⟨B,9,none⟩)
 | 3=>q=.slice (some x) M.m.ln L.c
 | 4=>q=.int .i64 i
 | 5=>q=.pointer (some (x.add (i*9)))
 | 6=>q=.agg #[.slice (Y i 0).a (Y i 0).n (Y i 0).c,.slice (Y i 1).a (Y i 1).n (Y i 1).c,.slice (Y i 2).a (Y i 2).n (Y i 2).c,.slice (Y i 3).a (Y i 3).n (Y i 3).c,.slice (Y i 4).a (Y i 4).n (Y i 4).c,.slice (Y i 5).a (Y i 5).n (Y i 5).c,.slice (Y i 6).a (Y i 6).n (Y i 6).c,.slice (Y i 7).a (Y i 7).n (Y i 7).c,.slice (Y i 8).a (Y i 8).n (Y i 8).c]
 | 7=>∃ b,q=.pointer (some ⟨b,0,none⟩)∧g≤b∧Blk 23 w b (cond (k 9) #[.int .i64 M.d,.int .i64 M.h,.int .i64 M.l,.int .i64 M.v,.int .i64 M.u,.int .i64 M.x,.int .i64 M.t,.int .i64 M.n] #[.int .i64 0,.int .i64 0,.int .i64 0,.int .i64 0,.int .i64 0,.int .i64 0,.int .i64 0,.int .i64 0])
 | 8=>∃ b,q=.pointer (some ⟨b,0,none⟩)∧g≤b∧Blk 61 w b (cond (k 10) #[.slice (Y i 0).a (Y i 0).n (Y i 0).c,.slice (Y i 1).a (Y i 1).n (Y i 1).c,.slice (Y i 2).a (Y i 2).n (Y i 2).c,.slice (Y i 3).a (Y i 3).n (Y i 3).c,.slice (Y i 4).a (Y i 4).n (Y i 4).c,.slice (Y i 5).a (Y i 5).n (Y i 5).c,.slice (Y i 6).a (Y i 6).n (Y i 6).c,.slice (Y i 7).a (Y i 7).n (Y i 7).c,.slice (Y i 8).a (Y i 8).n (Y i 8).c] #[.slice none 0 0,.slice none 0 0,.slice none 0 0,.slice none 0 0,.slice none 0 0,.slice none 0 0,.slice none 0 0,.slice none 0 0,.slice none 0 0])
 | _=>True
theorem lk_region {id:Nat}{ops:Array Oper}{Q:Exit→Act→World→Prop}{a0:Act}{w0:World}(M:Md)(E L N O:SL)(Y:Nat→Nat→SL)(B i:Nat)(x:Addr)(U D:Nat→Nat→SL)(hM:ModAt w0 E L N O Y U D M.m)(hx:L.a=some x)(hi':i<M.m.ln)(hB:Blk 34 w0 B #[.int .i64 M.d,.int .i64 M.h,.int .i64 M.l,.int .i64 M.v,.int .i64 M.u,.int .i64 M.x,.int .i64 M.t,.int .i64 M.n,.slice E.a E.n E.c,.slice (some x) M.m.ln L.c,.slice N.a N.n N.c,.slice O.a O.n O.c])
  (hlow:lowB ops=true) (hsz:ops.size=11)
  (o0:OpIn ops 0 (some 17) (.fieldAddr 34 (.tmp 5) 0) none []) (o1:OpIn ops 1 (some 18) (.load 23 (.tmp 17)) none [0]) (o2:OpIn ops 2 (some 19) (.fieldAddr 34 (.tmp 5) 2) none []) (o3:OpIn ops 3 (some 20) (.load 32 (.tmp 19)) none [2]) (o4:OpIn ops 4 (some 21) (.move (.tmp 2)) none []) (o5:OpIn ops 5 (some 22) (.indexAddr 32 (.tmp 20) (.tmp 21)) none [3,4]) (o6:OpIn ops 6 (some 23) (.load 61 (.tmp 22)) none [5]) (o7:OpIn ops 7 (some 13) (.alloc 23) none []) (o8:OpIn ops 8 (some 14) (.alloc 61) none []) (o9:OpIn ops 9 none (.store 23 (.tmp 13) (.tmp 18)) none [1,7]) (o10:OpIn ops 10 none (.store 61 (.tmp 14) (.tmp 23)) none [6,8])
  (ub:a0.tmps.getD 5 undef=.pointer (some ⟨B,0,none⟩)) (ui:a0.tmps.getD 2 undef=.int .i64 i)
  (hs:118≤a0.tmps.size)
  (fin:∀ a w cb lb,a.tmps.size=a0.tmps.size→a.defers=a0.defers→(∀ s,(∀ i,i<11→lkD i≠some s)→a.tmps.getD s undef=a0.tmps.getD s undef)→a.tmps.getD 13 undef=.pointer (some ⟨cb,0,none⟩)→a.tmps.getD 14 undef=.pointer (some ⟨lb,0,none⟩)→Below w0.heap.size w0 w→Blk 23 w cb #[.int .i64 M.d,.int .i64 M.h,.int .i64 M.l,.int .i64 M.v,.int .i64 M.u,.int .i64 M.x,.int .i64 M.t,.int .i64 M.n]→Blk 61 w lb #[.slice (Y i 0).a (Y i 0).n (Y i 0).c,.slice (Y i 1).a (Y i 1).n (Y i 1).c,.slice (Y i 2).a (Y i 2).n (Y i 2).c,.slice (Y i 3).a (Y i 3).n (Y i 3).c,.slice (Y i 4).a (Y i 4).n (Y i 4).c,.slice (Y i 5).a (Y i 5).n (Y i 5).c,.slice (Y i 6).a (Y i 6).n (Y i 6).c,.slice (Y i 7).a (Y i 7).n (Y i 7).c,.slice (Y i 8).a (Y i 8).n (Y i 8).c]→Q .normal a w):(Code.region id ops true).wp Tryz.prog Q a0 w0:=by
 refine wRi (by kernel_rfl) hlow (Inv 11 lkD a0 (fun _ _ w=>Below w0.heap.size w0 w) (lkF w0.heap.size M E L N O Y B i x)) (Inv.start (Below.refl _ _).drew) ?_ ?_
 ·intro k i' o a w ho hl hcl hdep hI
  have hi:i'<11:=by rw[←hsz];exact (Array.getElem?_eq_some_iff.1 ho).1
  have ev:∀ (s:Nat),a.eval (.tmp s)=a.tmps.getD s undef:=fun _=>rfl
  have inj:∀ d,lkD i'=some d→∀ j d',j<11→lkD j=some d'→j≠i'→d'≠d:=fun d hd j d' hj hd' hne e=>hne (lkD_inj j hj i' hi (by rw[hd',hd,e]) (by rw[hd'];simp))
  have kp:∀ s,(∀ i,i<11→lkD i≠some s)→a.tmps.getD s undef=a0.tmps.getD s undef:=hI.kept
  have hw:Below w0.heap.size w0 w:=hI.world
  have oth:∀ j,j≠i'→(k j || j==i')=k j:=fun j hj=>by rw[show (j==i')=false by simp[hj],Bool.or_false]
  have sam:(k i' || i'==i')=true:=by simp
  have U1:a.tmps.getD 5 undef=.pointer (some ⟨B,0,none⟩):=(kp 5 (by decide)).trans ub
  have U2:a.tmps.getD 2 undef=.int .i64 i:=(kp 2 (by decide)).trans ui
  have qB:=hB.kept hw
  have hM':=hM.below hw
  have go:∀ {d:Nat}{v:Value}{w':World},lkD i'=some d→i'≠9∧i'≠10→Below w.heap.size w w'→lkF w0.heap.size M E L N O Y B i x (fun j=>k j || j==i') i' v w'→Inv 11 lkD a0 (fun _ _ w=>Below w0.heap.size w0 w) (lkF w0.heap.size M E L N O Y B i x) (fun j=>k j || j==i') (a.put (some d) v) w':=by
   intro d v w' hD hn hb hF
   refine hI.put hi hD (Nat.lt_of_lt_of_le (lkD_lt i' hi d hD) hs) (inj d hD) (bTn hw hb) hF (fun j u hj _ _ hf=>?_)
   unfold lkF at hf ⊢
   dsimp only
   rw[oth 9 (fun e=>hn.1 e.symm),oth 10 (fun e=>hn.2 e.symm)]
   rcases (show j=0∨j=1∨j=2∨j=3∨j=4∨j=5∨j=6∨j=7∨j=8∨j=9∨j=10 by omega) with rfl|rfl|rfl|rfl|rfl|rfl|rfl|rfl|rfl|rfl|rfl<;>first
    | exact hf
    | (obtain⟨b,q1,q0,q2⟩:=hf;exact⟨b,q1,q0,q2.kept hb⟩)
  rcases (show i'=0∨i'=1∨i'=2∨i'=3∨i'=4∨i'=5∨i'=6∨i'=7∨i'=8∨i'=9∨i'=10 by omega) with rfl|rfl|rfl|rfl|rfl|rfl|rfl|rfl|rfl|rfl|rfl
  ·obtain⟨o',e1,e2,e3,e4,e5⟩:=o0
   obtain rfl:=sOp ho e1
   have dp:=dPo e5 hdep
   exact wVa (v:=.pointer (some ⟨B,0,none⟩)) (w':=w) ho e4 (by simp[execOp,e3,ev,U1,run_field27 B 0 0 (by omega)]) (by rw[e2];exact go rfl (by decide) (Below.refl _ _) rfl)
  ·obtain⟨o',e1,e2,e3,e4,e5⟩:=o1
   obtain rfl:=sOp ho e1
   have dp:=dPo e5 hdep
   have V0:a.tmps.getD 17 undef=.pointer (some ⟨B,0,none⟩):=hI.val 0 17 (by decide) rfl (dp 0 (by decide))
   exact wVa (v:=.agg #[.int .i64 M.d,.int .i64 M.h,.int .i64 M.l,.int .i64 M.v,.int .i64 M.u,.int .i64 M.x,.int .i64 M.t,.int .i64 M.n]) (w':=w) ho e4 (by simp[execOp,e3,ev,V0,run_cfg12 qB]) (by rw[e2];exact go rfl (by decide) (Below.refl _ _) rfl)
  ·obtain⟨o',e1,e2,e3,e4,e5⟩:=o2
   obtain rfl:=sOp ho e1
   have dp:=dPo e5 hdep
   exact wVa (v:=.pointer (some ⟨B,9,none⟩)) (w':=w) ho e4 (by simp[execOp,e3,ev,U1,run_field27 B 2 9 (by omega)]) (by rw[e2];exact go rfl (by decide) (Below.refl _ _) rfl)
  ·obtain⟨o',e1,e2,e3,e4,e5⟩:=o3
   obtain rfl:=sOp ho e1
   have dp:=dPo e5 hdep
   have V2:a.tmps.getD 19 undef=.pointer (some ⟨B,9,none⟩):=hI.val 2 19 (by decide) rfl (dp 2 (by decide))
   have c9:w.cell? ⟨B,9,none⟩=some (.slice (some x) M.m.ln L.c):=qB.cell 9 rfl
   exact wVa (v:=.slice (some x) M.m.ln L.c) (w':=w) ho e4 (by simp[execOp,e3,ev,V2,run_load32 c9]) (by rw[e2];exact go rfl (by decide) (Below.refl _ _) rfl)
  ·obtain⟨o',e1,e2,e3,e4,e5⟩:=o4
   obtain rfl:=sOp ho e1
   have dp:=dPo e5 hdep
   exact wVa (v:=.int .i64 i) (w':=w) ho e4 (by simp[execOp,e3,ev,U2]) (by rw[e2];exact go rfl (by decide) (Below.refl _ _) rfl)
  ·obtain⟨o',e1,e2,e3,e4,e5⟩:=o5
   obtain rfl:=sOp ho e1
   have dp:=dPo e5 hdep
   have V3:a.tmps.getD 20 undef=.slice (some x) M.m.ln L.c:=hI.val 3 20 (by decide) rfl (dp 3 (by decide))
   have V4:a.tmps.getD 21 undef=.int .i64 i:=hI.val 4 21 (by decide) rfl (dp 4 (by decide))
   exact wVa (v:=.pointer (some (x.add (i*9)))) (w':=w) ho e4 (by simp[execOp,e3,ev,V3,V4,run_index25 hi' w]) (by rw[e2];exact go rfl (by decide) (Below.refl _ _) rfl)
  ·obtain⟨o',e1,e2,e3,e4,e5⟩:=o6
   obtain rfl:=sOp ho e1
   have dp:=dPo e5 hdep
   have V5:a.tmps.getD 22 undef=.pointer (some (x.add (i*9))):=hI.val 5 22 (by decide) rfl (dp 5 (by decide))
   exact wVa (v:=.agg #[.slice (Y i 0).a (Y i 0).n (Y i 0).c,.slice (Y i 1).a (Y i 1).n (Y i 1).c,.slice (Y i 2).a (Y i 2).n (Y i 2).c,.slice (Y i 3).a (Y i 3).n (Y i 3).c,.slice (Y i 4).a (Y i 4).n (Y i 4).c,.slice (Y i 5).a (Y i 5).n (Y i 5).c,.slice (Y i 6).a (Y i 6).n (Y i 6).c,.slice (Y i 7).a (Y i 7).n (Y i 7).c,.slice (Y i 8).a (Y i 8).n (Y i 8).c]) (w':=w) ho e4 (by simp[execOp,e3,ev,V5,run_load61 (y:=Y i) (fun j hj=>hM'.cell x hx i hi' j hj)]) (by rw[e2];exact go rfl (by decide) (Below.refl _ _) rfl)
  ·obtain⟨o',e1,e2,e3,e4,e5⟩:=o7
   obtain rfl:=sOp ho e1
   have dp:=dPo e5 hdep
   have nd:k 9=false:=by
    cases e:k 9 with
    | false=>rfl
    | true =>
     have y:=hcl.dep' o9 e 7 (by decide)
     rw[hl] at y
     cases y
   refine wVa (v:=.pointer (some ⟨w.heap.size,0,none⟩)) (w':=w.alloc (.cells #[.int .i64 0,.int .i64 0,.int .i64 0,.int .i64 0,.int .i64 0,.int .i64 0,.int .i64 0,.int .i64 0] 23)) ho e4 (by simp[execOp,e3,run_alloc23]) ?_
   rw[e2]
   refine go rfl (by decide) (bNw (Below.refl _ _) _) ⟨w.heap.size,rfl,hw.size,?_⟩
   dsimp only
   rw[oth 9 (by decide),nd]
   exact Blk.new 23 w _
  ·obtain⟨o',e1,e2,e3,e4,e5⟩:=o8
   obtain rfl:=sOp ho e1
   have dp:=dPo e5 hdep
   have nd:k 10=false:=by
    cases e:k 10 with
    | false=>rfl
    | true =>
     have y:=hcl.dep' o10 e 8 (by decide)
     rw[hl] at y
     cases y
   refine wVa (v:=.pointer (some ⟨w.heap.size,0,none⟩)) (w':=w.alloc (.cells #[.slice none 0 0,.slice none 0 0,.slice none 0 0,.slice none 0 0,.slice none 0 0,.slice none 0 0,.slice none 0 0,.slice none 0 0,.slice none 0 0] 61)) ho e4 (by simp[execOp,e3,run_alloc65]) ?_
   rw[e2]
   refine go rfl (by decide) (bNw (Below.refl _ _) _) ⟨w.heap.size,rfl,hw.size,?_⟩
   dsimp only
   rw[oth 10 (by decide),nd]
   exact Blk.new 61 w _
  ·obtain⟨o',e1,e2,e3,e4,e5⟩:=o9
   obtain rfl:=sOp ho e1
   have dp:=dPo e5 hdep
   have V1:a.tmps.getD 18 undef=.agg #[.int .i64 M.d,.int .i64 M.h,.int .i64 M.l,.int .i64 M.v,.int .i64 M.u,.int .i64 M.x,.int .i64 M.t,.int .i64 M.n]:=hI.val 1 18 (by decide) rfl (dp 1 (by decide))
   obtain⟨b,V7,bge,q⟩:∃ b,a.tmps.getD 13 undef=.pointer (some ⟨b,0,none⟩)∧w0.heap.size≤b∧Blk 23 w b (cond (k 9) #[.int .i64 M.d,.int .i64 M.h,.int .i64 M.l,.int .i64 M.v,.int .i64 M.u,.int .i64 M.x,.int .i64 M.t,.int .i64 M.n] #[.int .i64 0,.int .i64 0,.int .i64 0,.int .i64 0,.int .i64 0,.int .i64 0,.int .i64 0,.int .i64 0]):=hI.val 7 13 (by decide) rfl (dp 7 (by decide))
   rw[hl] at q
   obtain⟨w',r',q',on⟩:=run_store23 q M.d M.h M.l M.v M.u M.x M.t M.n
   refine wSk (w':=w') ho e4 (by simp[execOp,e3,ev,V7,V1,r']) ?_
   rw[e2]
   refine Inv.none_' hI rfl (Only.below hw bge hw.size on) (fun j dd hj hD hkj hne hf=>?_)
   rcases (show j=0∨j=1∨j=2∨j=3∨j=4∨j=5∨j=6∨j=7∨j=8∨j=9∨j=10 by omega) with rfl|rfl|rfl|rfl|rfl|rfl|rfl|rfl|rfl|rfl|rfl
   ·exact hf
   ·exact hf
   ·exact hf
   ·exact hf
   ·exact hf
   ·exact hf
   ·exact hf
   ·obtain⟨b2,p1,p0,p2⟩:=hf
    have eb:b2=b:=by
     obtain rfl:=Option.some.inj hD
     have:=V7.symm.trans p1
     simp at this
     exact this.symm
    subst eb
    refine⟨b2,p1,p0,?_⟩
    dsimp only
    rw[sam]
    exact q'
   ·obtain⟨b2,p1,p0,p2⟩:=hf
    refine⟨b2,p1,p0,?_⟩
    dsimp only
    rw[oth 10 (by decide)]
    exact p2.only on (p2.apart q (by decide))
   ·trivial
   ·trivial
  ·obtain⟨o',e1,e2,e3,e4,e5⟩:=o10
   obtain rfl:=sOp ho e1
   have dp:=dPo e5 hdep
   have V6:a.tmps.getD 23 undef=.agg #[.slice (Y i 0).a (Y i 0).n (Y i 0).c,.slice (Y i 1).a (Y i 1).n (Y i 1).c,.slice (Y i 2).a (Y i 2).n (Y i 2).c,.slice (Y i 3).a (Y i 3).n (Y i 3).c,.slice (Y i 4).a (Y i 4).n (Y i 4).c,.slice (Y i 5).a (Y i 5).n (Y i 5).c,.slice (Y i 6).a (Y i 6).n (Y i 6).c,.slice (Y i 7).a (Y i 7).n (Y i 7).c,.slice (Y i 8).a (Y i 8).n (Y i 8).c]:=hI.val 6 23 (by decide) rfl (dp 6 (by decide))
   obtain⟨b,V8,bge,q⟩:∃ b,a.tmps.getD 14 undef=.pointer (some ⟨b,0,none⟩)∧w0.heap.size≤b∧Blk 61 w b (cond (k 10) #[.slice (Y i 0).a (Y i 0).n (Y i 0).c,.slice (Y i 1).a (Y i 1).n (Y i 1).c,.slice (Y i 2).a (Y i 2).n (Y i 2).c,.slice (Y i 3).a (Y i 3).n (Y i 3).c,.slice (Y i 4).a (Y i 4).n (Y i 4).c,.slice (Y i 5).a (Y i 5).n (Y i 5).c,.slice (Y i 6).a (Y i 6).n (Y i 6).c,.slice (Y i 7).a (Y i 7).n (Y i 7).c,.slice (Y i 8).a (Y i 8).n (Y i 8).c] #[.slice none 0 0,.slice none 0 0,.slice none 0 0,.slice none 0 0,.slice none 0 0,.slice none 0 0,.slice none 0 0,.slice none 0 0,.slice none 0 0]):=hI.val 8 14 (by decide) rfl (dp 8 (by decide))
   rw[hl] at q
   obtain⟨w',r',q',on⟩:=run_store61 q (Y i)
   refine wSk (w':=w') ho e4 (by simp[execOp,e3,ev,V8,V6,r']) ?_
   rw[e2]
   refine Inv.none_' hI rfl (Only.below hw bge hw.size on) (fun j dd hj hD hkj hne hf=>?_)
   rcases (show j=0∨j=1∨j=2∨j=3∨j=4∨j=5∨j=6∨j=7∨j=8∨j=9∨j=10 by omega) with rfl|rfl|rfl|rfl|rfl|rfl|rfl|rfl|rfl|rfl|rfl
   ·exact hf
   ·exact hf
   ·exact hf
   ·exact hf
   ·exact hf
   ·exact hf
   ·exact hf
   ·obtain⟨b2,p1,p0,p2⟩:=hf
    refine⟨b2,p1,p0,?_⟩
    dsimp only
    rw[oth 9 (by decide)]
    exact p2.only on (p2.apart q (by decide))
   ·obtain⟨b2,p1,p0,p2⟩:=hf
    have eb:b2=b:=by
     obtain rfl:=Option.some.inj hD
     have:=V8.symm.trans p1
     simp at this
     exact this.symm
    subst eb
    refine⟨b2,p1,p0,?_⟩
    dsimp only
    rw[sam]
    exact q'
   ·trivial
   ·trivial
 ·intro k a w hall hI
  have all:∀ j,j<11→k j=true:=fun j hj=>hall j (by rw[hsz];exact hj)
  obtain⟨cb,v1,-,q1⟩:∃ b,a.tmps.getD 13 undef=.pointer (some ⟨b,0,none⟩)∧w0.heap.size≤b∧Blk 23 w b (cond (k 9) #[.int .i64 M.d,.int .i64 M.h,.int .i64 M.l,.int .i64 M.v,.int .i64 M.u,.int .i64 M.x,.int .i64 M.t,.int .i64 M.n] #[.int .i64 0,.int .i64 0,.int .i64 0,.int .i64 0,.int .i64 0,.int .i64 0,.int .i64 0,.int .i64 0]):=hI.val 7 13 (by decide) rfl (all 7 (by decide))
  obtain⟨lb,v2,-,q2⟩:∃ b,a.tmps.getD 14 undef=.pointer (some ⟨b,0,none⟩)∧w0.heap.size≤b∧Blk 61 w b (cond (k 10) #[.slice (Y i 0).a (Y i 0).n (Y i 0).c,.slice (Y i 1).a (Y i 1).n (Y i 1).c,.slice (Y i 2).a (Y i 2).n (Y i 2).c,.slice (Y i 3).a (Y i 3).n (Y i 3).c,.slice (Y i 4).a (Y i 4).n (Y i 4).c,.slice (Y i 5).a (Y i 5).n (Y i 5).c,.slice (Y i 6).a (Y i 6).n (Y i 6).c,.slice (Y i 7).a (Y i 7).n (Y i 7).c,.slice (Y i 8).a (Y i 8).n (Y i 8).c] #[.slice none 0 0,.slice none 0 0,.slice none 0 0,.slice none 0 0,.slice none 0 0,.slice none 0 0,.slice none 0 0,.slice none 0 0,.slice none 0 0]):=hI.val 8 14 (by decide) rfl (all 8 (by decide))
  rw[all 9 (by decide)] at q1
  rw[all 10 (by decide)] at q2
  exact fin a w cb lb hI.size hI.defers hI.kept v1 v2 hI.world q1 q2
def wkD (i:Nat):Option Nat:=match i with|0=>some 12|1=>some 13|2=>some 14|3=>some 15|4=>some 16|5=>some 17|6=>some 18|7=>some 9|8=>some 10|_=>none
theorem wkD_inj:∀ i,i<11→∀ j,j<11→wkD i=wkD j→wkD i≠none→i=j:=by decide
theorem wkD_lt:∀ i,i<11→∀ d,wkD i=some d→d<60:=by
 intro i hi d h
 have:∀ i,i<11→(wkD i).all (fun d=>decide (d<60))=true:=by decide
 have:=this i hi
 rw[h] at this
 simpa using this
def wkF (g:Nat)(M:Md)(E L N O:SL)(Y:Nat→Nat→SL)(B i:Nat)(x:Addr)(k:Nat→Bool)(j:Nat)(q:Value)(w:World):Prop:=match j with
 | 0=>q=.pointer (some ⟨B,0,none⟩)
 | 1=>q=.agg #[.int .i64 M.d,.int .i64 M.h,.int .i64 M.l,.int .i64 M.v,.int .i64 M.u,.int .i64 M.x,.int .i64 M.t,.int .i64 M.n]
 | 2=>q=.pointer (some ⟨B,9,none⟩)
 | 3=>q=.slice (some x) M.m.ln L.c
 | 4=>q=.int .i64 i
 | 5=>q=.pointer (some (x.add (i*9)))
 | 6=>q=.agg #[.slice (Y i 0).a (Y i 0).n (Y i 0).c,.slice (Y i 1).a (Y i 1).n (Y i 1).c,.slice (Y i 2).a (Y i 2).n (Y i 2).c,.slice (Y i 3).a (Y i 3).n (Y i 3).c,.slice (Y i 4).a (Y i 4).n (Y i 4).c,.slice (Y i 5).a (Y i 5).n (Y i 5).c,.slice (Y i 6).a (Y i 6).n (Y i 6).c,.slice (Y i 7).a (Y i 7).n (Y i 7).c,.slice (Y i 8).a (Y i 8).n (Y i 8).c]
 | 7=>∃ b,q=.pointer (some ⟨b,0,none⟩)∧g≤b∧Blk 23 w b (cond (k 9) #[.int .i64 M.d,.int .i64 M.h,.int .i64 M.l,.int .i64 M.v,.int .i64 M.u,.int .i64 M.x,.int .i64 M.t,.int .i64 M.n] #[.int .i64 0,.int .i64 0,.int .i64 0,.int .i64 0,.int .i64 0,.int .i64 0,.int .i64 0,.int .i64 0])
 | 8=>∃ b,q=.pointer (some ⟨b,0,none⟩)∧g≤b∧Blk 61 w b (cond (k 10) #[.slice (Y i 0).a (Y i 0).n (Y i 0).c,.slice (Y i 1).a (Y i 1).n (Y i 1).c,.slice (Y i 2).a (Y i 2).n (Y i 2).c,.slice (Y i 3).a (Y i 3).n (Y i 3).c,.slice (Y i 4).a (Y i 4).n (Y i 4).c,.slice (Y i 5).a (Y i 5).n (Y i 5).c,.slice (Y i 6).a (Y i 6).n (Y i 6).c,.slice (Y i 7).a (Y i 7).n (Y i 7).c,.slice (Y i 8).a (Y i 8).n (Y i 8).c] #[.slice none 0 0,.slice none 0 0,.slice none 0 0,.slice none 0 0,.slice none 0 0,.slice none 0 0,.slice none 0 0,.slice none 0 0,.slice none 0 0])
 | _=>True
theorem wk_region {id:Nat}{ops:Array Oper}{Q:Exit→Act→World→Prop}{a0:Act}{w0:World}(M:Md)(E L N O:SL)(Y:Nat→Nat→SL)(B i:Nat)(x:Addr)(U D:Nat→Nat→SL)(hM:ModAt w0 E L N O Y U D M.m)(hx:L.a=some x)(hi':i<M.m.ln)(hB:Blk 34 w0 B #[.int .i64 M.d,.int .i64 M.h,.int .i64 M.l,.int .i64 M.v,.int .i64 M.u,.int .i64 M.x,.int .i64 M.t,.int .i64 M.n,.slice E.a E.n E.c,.slice (some x) M.m.ln L.c,.slice N.a N.n N.c,.slice O.a O.n O.c])
  (hlow:lowB ops=true) (hsz:ops.size=11)
  (o0:OpIn ops 0 (some 12) (.fieldAddr 34 (.tmp 4) 0) none []) (o1:OpIn ops 1 (some 13) (.load 23 (.tmp 12)) none [0]) (o2:OpIn ops 2 (some 14) (.fieldAddr 34 (.tmp 4) 2) none []) (o3:OpIn ops 3 (some 15) (.load 32 (.tmp 14)) none [2]) (o4:OpIn ops 4 (some 16) (.move (.tmp 1)) none []) (o5:OpIn ops 5 (some 17) (.indexAddr 32 (.tmp 15) (.tmp 16)) none [3,4]) (o6:OpIn ops 6 (some 18) (.load 61 (.tmp 17)) none [5]) (o7:OpIn ops 7 (some 9) (.alloc 23) none []) (o8:OpIn ops 8 (some 10) (.alloc 61) none []) (o9:OpIn ops 9 none (.store 23 (.tmp 9) (.tmp 13)) none [1,7]) (o10:OpIn ops 10 none (.store 61 (.tmp 10) (.tmp 18)) none [6,8])
  (ub:a0.tmps.getD 4 undef=.pointer (some ⟨B,0,none⟩)) (ui:a0.tmps.getD 1 undef=.int .i64 i)
  (hs:60≤a0.tmps.size)
  (fin:∀ a w cb lb,a.tmps.size=a0.tmps.size→a.defers=a0.defers→(∀ s,(∀ i,i<11→wkD i≠some s)→a.tmps.getD s undef=a0.tmps.getD s undef)→a.tmps.getD 9 undef=.pointer (some ⟨cb,0,none⟩)→a.tmps.getD 10 undef=.pointer (some ⟨lb,0,none⟩)→Below w0.heap.size w0 w→Blk 23 w cb #[.int .i64 M.d,.int .i64 M.h,.int .i64 M.l,.int .i64 M.v,.int .i64 M.u,.int .i64 M.x,.int .i64 M.t,.int .i64 M.n]→Blk 61 w lb #[.slice (Y i 0).a (Y i 0).n (Y i 0).c,.slice (Y i 1).a (Y i 1).n (Y i 1).c,.slice (Y i 2).a (Y i 2).n (Y i 2).c,.slice (Y i 3).a (Y i 3).n (Y i 3).c,.slice (Y i 4).a (Y i 4).n (Y i 4).c,.slice (Y i 5).a (Y i 5).n (Y i 5).c,.slice (Y i 6).a (Y i 6).n (Y i 6).c,.slice (Y i 7).a (Y i 7).n (Y i 7).c,.slice (Y i 8).a (Y i 8).n (Y i 8).c]→Q .normal a w):(Code.region id ops true).wp Tryz.prog Q a0 w0:=by
 refine wRi (by kernel_rfl) hlow (Inv 11 wkD a0 (fun _ _ w=>Below w0.heap.size w0 w) (wkF w0.heap.size M E L N O Y B i x)) (Inv.start (Below.refl _ _).drew) ?_ ?_
 ·intro k i' o a w ho hl hcl hdep hI
  have hi:i'<11:=by rw[←hsz];exact (Array.getElem?_eq_some_iff.1 ho).1
  have ev:∀ (s:Nat),a.eval (.tmp s)=a.tmps.getD s undef:=fun _=>rfl
  have inj:∀ d,wkD i'=some d→∀ j d',j<11→wkD j=some d'→j≠i'→d'≠d:=fun d hd j d' hj hd' hne e=>hne (wkD_inj j hj i' hi (by rw[hd',hd,e]) (by rw[hd'];simp))
  have kp:∀ s,(∀ i,i<11→wkD i≠some s)→a.tmps.getD s undef=a0.tmps.getD s undef:=hI.kept
  have hw:Below w0.heap.size w0 w:=hI.world
  have oth:∀ j,j≠i'→(k j || j==i')=k j:=fun j hj=>by rw[show (j==i')=false by simp[hj],Bool.or_false]
  have sam:(k i' || i'==i')=true:=by simp
  have U1:a.tmps.getD 4 undef=.pointer (some ⟨B,0,none⟩):=(kp 4 (by decide)).trans ub
  have U2:a.tmps.getD 1 undef=.int .i64 i:=(kp 1 (by decide)).trans ui
  have qB:=hB.kept hw
  have hM':=hM.below hw
  have go:∀ {d:Nat}{v:Value}{w':World},wkD i'=some d→i'≠9∧i'≠10→Below w.heap.size w w'→wkF w0.heap.size M E L N O Y B i x (fun j=>k j || j==i') i' v w'→Inv 11 wkD a0 (fun _ _ w=>Below w0.heap.size w0 w) (wkF w0.heap.size M E L N O Y B i x) (fun j=>k j || j==i') (a.put (some d) v) w':=by
   intro d v w' hD hn hb hF
   refine hI.put hi hD (Nat.lt_of_lt_of_le (wkD_lt i' hi d hD) hs) (inj d hD) (bTn hw hb) hF (fun j u hj _ _ hf=>?_)
   unfold wkF at hf ⊢
   dsimp only
   rw[oth 9 (fun e=>hn.1 e.symm),oth 10 (fun e=>hn.2 e.symm)]
   rcases (show j=0∨j=1∨j=2∨j=3∨j=4∨j=5∨j=6∨j=7∨j=8∨j=9∨j=10 by omega) with rfl|rfl|rfl|rfl|rfl|rfl|rfl|rfl|rfl|rfl|rfl<;>first
    | exact hf
    | (obtain⟨b,q1,q0,q2⟩:=hf;exact⟨b,q1,q0,q2.kept hb⟩)
  rcases (show i'=0∨i'=1∨i'=2∨i'=3∨i'=4∨i'=5∨i'=6∨i'=7∨i'=8∨i'=9∨i'=10 by omega) with rfl|rfl|rfl|rfl|rfl|rfl|rfl|rfl|rfl|rfl|rfl
  ·obtain⟨o',e1,e2,e3,e4,e5⟩:=o0
   obtain rfl:=sOp ho e1
   have dp:=dPo e5 hdep
   exact wVa (v:=.pointer (some ⟨B,0,none⟩)) (w':=w) ho e4 (by simp[execOp,e3,ev,U1,run_field27 B 0 0 (by omega)]) (by rw[e2];exact go rfl (by decide) (Below.refl _ _) rfl)
  ·obtain⟨o',e1,e2,e3,e4,e5⟩:=o1
   obtain rfl:=sOp ho e1
   have dp:=dPo e5 hdep
   have V0:a.tmps.getD 12 undef=.pointer (some ⟨B,0,none⟩):=hI.val 0 12 (by decide) rfl (dp 0 (by decide))
   exact wVa (v:=.agg #[.int .i64 M.d,.int .i64 M.h,.int .i64 M.l,.int .i64 M.v,.int .i64 M.u,.int .i64 M.x,.int .i64 M.t,.int .i64 M.n]) (w':=w) ho e4 (by simp[execOp,e3,ev,V0,run_cfg12 qB]) (by rw[e2];exact go rfl (by decide) (Below.refl _ _) rfl)
  ·obtain⟨o',e1,e2,e3,e4,e5⟩:=o2
   obtain rfl:=sOp ho e1
   have dp:=dPo e5 hdep
   exact wVa (v:=.pointer (some ⟨B,9,none⟩)) (w':=w) ho e4 (by simp[execOp,e3,ev,U1,run_field27 B 2 9 (by omega)]) (by rw[e2];exact go rfl (by decide) (Below.refl _ _) rfl)
  ·obtain⟨o',e1,e2,e3,e4,e5⟩:=o3
   obtain rfl:=sOp ho e1
   have dp:=dPo e5 hdep
   have V2:a.tmps.getD 14 undef=.pointer (some ⟨B,9,none⟩):=hI.val 2 14 (by decide) rfl (dp 2 (by decide))
   have c9:w.cell? ⟨B,9,none⟩=some (.slice (some x) M.m.ln L.c):=qB.cell 9 rfl
   exact wVa (v:=.slice (some x) M.m.ln L.c) (w':=w) ho e4 (by simp[execOp,e3,ev,V2,run_load32 c9]) (by rw[e2];exact go rfl (by decide) (Below.refl _ _) rfl)
  ·obtain⟨o',e1,e2,e3,e4,e5⟩:=o4
   obtain rfl:=sOp ho e1
   have dp:=dPo e5 hdep
   exact wVa (v:=.int .i64 i) (w':=w) ho e4 (by simp[execOp,e3,ev,U2]) (by rw[e2];exact go rfl (by decide) (Below.refl _ _) rfl)
  ·obtain⟨o',e1,e2,e3,e4,e5⟩:=o5
   obtain rfl:=sOp ho e1
   have dp:=dPo e5 hdep
   have V3:a.tmps.getD 15 undef=.slice (some x) M.m.ln L.c:=hI.val 3 15 (by decide) rfl (dp 3 (by decide))
   have V4:a.tmps.getD 16 undef=.int .i64 i:=hI.val 4 16 (by decide) rfl (dp 4 (by decide))
   exact wVa (v:=.pointer (some (x.add (i*9)))) (w':=w) ho e4 (by simp[execOp,e3,ev,V3,V4,run_index25 hi' w]) (by rw[e2];exact go rfl (by decide) (Below.refl _ _) rfl)
  ·obtain⟨o',e1,e2,e3,e4,e5⟩:=o6
   obtain rfl:=sOp ho e1
   have dp:=dPo e5 hdep
   have V5:a.tmps.getD 17 undef=.pointer (some (x.add (i*9))):=hI.val 5 17 (by decide) rfl (dp 5 (by decide))
   exact wVa (v:=.agg #[.slice (Y i 0).a (Y i 0).n (Y i 0).c,.slice (Y i 1).a (Y i 1).n (Y i 1).c,.slice (Y i 2).a (Y i 2).n (Y i 2).c,.slice (Y i 3).a (Y i 3).n (Y i 3).c,.slice (Y i 4).a (Y i 4).n (Y i 4).c,.slice (Y i 5).a (Y i 5).n (Y i 5).c,.slice (Y i 6).a (Y i 6).n (Y i 6).c,.slice (Y i 7).a (Y i 7).n (Y i 7).c,.slice (Y i 8).a (Y i 8).n (Y i 8).c]) (w':=w) ho e4 (by simp[execOp,e3,ev,V5,run_load61 (y:=Y i) (fun j hj=>hM'.cell x hx i hi' j hj)]) (by rw[e2];exact go rfl (by decide) (Below.refl _ _) rfl)
  ·obtain⟨o',e1,e2,e3,e4,e5⟩:=o7
   obtain rfl:=sOp ho e1
   have dp:=dPo e5 hdep
   have nd:k 9=false:=by
    cases e:k 9 with
    | false=>rfl
    | true =>
     have y:=hcl.dep' o9 e 7 (by decide)
     rw[hl] at y
     cases y
   refine wVa (v:=.pointer (some ⟨w.heap.size,0,none⟩)) (w':=w.alloc (.cells #[.int .i64 0,.int .i64 0,.int .i64 0,.int .i64 0,.int .i64 0,.int .i64 0,.int .i64 0,.int .i64 0] 23)) ho e4 (by simp[execOp,e3,run_alloc23]) ?_
   rw[e2]
   refine go rfl (by decide) (bNw (Below.refl _ _) _) ⟨w.heap.size,rfl,hw.size,?_⟩
   dsimp only
   rw[oth 9 (by decide),nd]
   exact Blk.new 23 w _
  ·obtain⟨o',e1,e2,e3,e4,e5⟩:=o8
   obtain rfl:=sOp ho e1
   have dp:=dPo e5 hdep
   have nd:k 10=false:=by
    cases e:k 10 with
    | false=>rfl
    | true =>
     have y:=hcl.dep' o10 e 8 (by decide)
     rw[hl] at y
     cases y
   refine wVa (v:=.pointer (some ⟨w.heap.size,0,none⟩)) (w':=w.alloc (.cells #[.slice none 0 0,.slice none 0 0,.slice none 0 0,.slice none 0 0,.slice none 0 0,.slice none 0 0,.slice none 0 0,.slice none 0 0,.slice none 0 0] 61)) ho e4 (by simp[execOp,e3,run_alloc65]) ?_
   rw[e2]
   refine go rfl (by decide) (bNw (Below.refl _ _) _) ⟨w.heap.size,rfl,hw.size,?_⟩
   dsimp only
   rw[oth 10 (by decide),nd]
   exact Blk.new 61 w _
  ·obtain⟨o',e1,e2,e3,e4,e5⟩:=o9
   obtain rfl:=sOp ho e1
   have dp:=dPo e5 hdep
   have V1:a.tmps.getD 13 undef=.agg #[.int .i64 M.d,.int .i64 M.h,.int .i64 M.l,.int .i64 M.v,.int .i64 M.u,.int .i64 M.x,.int .i64 M.t,.int .i64 M.n]:=hI.val 1 13 (by decide) rfl (dp 1 (by decide))
   obtain⟨b,V7,bge,q⟩:∃ b,a.tmps.getD 9 undef=.pointer (some ⟨b,0,none⟩)∧w0.heap.size≤b∧Blk 23 w b (cond (k 9) #[.int .i64 M.d,.int .i64 M.h,.int .i64 M.l,.int .i64 M.v,.int .i64 M.u,.int .i64 M.x,.int .i64 M.t,.int .i64 M.n] #[.int .i64 0,.int .i64 0,.int .i64 0,.int .i64 0,.int .i64 0,.int .i64 0,.int .i64 0,.int .i64 0]):=hI.val 7 9 (by decide) rfl (dp 7 (by decide))
   rw[hl] at q
   obtain⟨w',r',q',on⟩:=run_store23 q M.d M.h M.l M.v M.u M.x M.t M.n
   refine wSk (w':=w') ho e4 (by simp[execOp,e3,ev,V7,V1,r']) ?_
   rw[e2]
   refine Inv.none_' hI rfl (Only.below hw bge hw.size on) (fun j dd hj hD hkj hne hf=>?_)
   rcases (show j=0∨j=1∨j=2∨j=3∨j=4∨j=5∨j=6∨j=7∨j=8∨j=9∨j=10 by omega) with rfl|rfl|rfl|rfl|rfl|rfl|rfl|rfl|rfl|rfl|rfl
   ·exact hf
   ·exact hf
   ·exact hf
   ·exact hf
   ·exact hf
   ·exact hf
   ·exact hf
   ·obtain⟨b2,p1,p0,p2⟩:=hf
    have eb:b2=b:=by
     obtain rfl:=Option.some.inj hD
     have:=V7.symm.trans p1
     simp at this
     exact this.symm
    subst eb
    refine⟨b2,p1,p0,?_⟩
    dsimp only
    rw[sam]
    exact q'
   ·obtain⟨b2,p1,p0,p2⟩:=hf
    refine⟨b2,p1,p0,?_⟩
    dsimp only
    rw[oth 10 (by decide)]
    exact p2.only on (p2.apart q (by decide))
   ·trivial
   ·trivial
  ·obtain⟨o',e1,e2,e3,e4,e5⟩:=o10
   obtain rfl:=sOp ho e1
   have dp:=dPo e5 hdep
   have V6:a.tmps.getD 18 undef=.agg #[.slice (Y i 0).a (Y i 0).n (Y i 0).c,.slice (Y i 1).a (Y i 1).n (Y i 1).c,.slice (Y i 2).a (Y i 2).n (Y i 2).c,.slice (Y i 3).a (Y i 3).n (Y i 3).c,.slice (Y i 4).a (Y i 4).n (Y i 4).c,.slice (Y i 5).a (Y i 5).n (Y i 5).c,.slice (Y i 6).a (Y i 6).n (Y i 6).c,.slice (Y i 7).a (Y i 7).n (Y i 7).c,.slice (Y i 8).a (Y i 8).n (Y i 8).c]:=hI.val 6 18 (by decide) rfl (dp 6 (by decide))
   obtain⟨b,V8,bge,q⟩:∃ b,a.tmps.getD 10 undef=.pointer (some ⟨b,0,none⟩)∧w0.heap.size≤b∧Blk 61 w b (cond (k 10) #[.slice (Y i 0).a (Y i 0).n (Y i 0).c,.slice (Y i 1).a (Y i 1).n (Y i 1).c,.slice (Y i 2).a (Y i 2).n (Y i 2).c,.slice (Y i 3).a (Y i 3).n (Y i 3).c,.slice (Y i 4).a (Y i 4).n (Y i 4).c,.slice (Y i 5).a (Y i 5).n (Y i 5).c,.slice (Y i 6).a (Y i 6).n (Y i 6).c,.slice (Y i 7).a (Y i 7).n (Y i 7).c,.slice (Y i 8).a (Y i 8).n (Y i 8).c] #[.slice none 0 0,.slice none 0 0,.slice none 0 0,.slice none 0 0,.slice none 0 0,.slice none 0 0,.slice none 0 0,.slice none 0 0,.slice none 0 0]):=hI.val 8 10 (by decide) rfl (dp 8 (by decide))
   rw[hl] at q
   obtain⟨w',r',q',on⟩:=run_store61 q (Y i)
   refine wSk (w':=w') ho e4 (by simp[execOp,e3,ev,V8,V6,r']) ?_
   rw[e2]
   refine Inv.none_' hI rfl (Only.below hw bge hw.size on) (fun j dd hj hD hkj hne hf=>?_)
   rcases (show j=0∨j=1∨j=2∨j=3∨j=4∨j=5∨j=6∨j=7∨j=8∨j=9∨j=10 by omega) with rfl|rfl|rfl|rfl|rfl|rfl|rfl|rfl|rfl|rfl|rfl
   ·exact hf
   ·exact hf
   ·exact hf
   ·exact hf
   ·exact hf
   ·exact hf
   ·exact hf
   ·obtain⟨b2,p1,p0,p2⟩:=hf
    refine⟨b2,p1,p0,?_⟩
    dsimp only
    rw[oth 9 (by decide)]
    exact p2.only on (p2.apart q (by decide))
   ·obtain⟨b2,p1,p0,p2⟩:=hf
    have eb:b2=b:=by
     obtain rfl:=Option.some.inj hD
     have:=V8.symm.trans p1
     simp at this
     exact this.symm
    subst eb
    refine⟨b2,p1,p0,?_⟩
    dsimp only
    rw[sam]
    exact q'
   ·trivial
   ·trivial
 ·intro k a w hall hI
  have all:∀ j,j<11→k j=true:=fun j hj=>hall j (by rw[hsz];exact hj)
  obtain⟨cb,v1,-,q1⟩:∃ b,a.tmps.getD 9 undef=.pointer (some ⟨b,0,none⟩)∧w0.heap.size≤b∧Blk 23 w b (cond (k 9) #[.int .i64 M.d,.int .i64 M.h,.int .i64 M.l,.int .i64 M.v,.int .i64 M.u,.int .i64 M.x,.int .i64 M.t,.int .i64 M.n] #[.int .i64 0,.int .i64 0,.int .i64 0,.int .i64 0,.int .i64 0,.int .i64 0,.int .i64 0,.int .i64 0]):=hI.val 7 9 (by decide) rfl (all 7 (by decide))
  obtain⟨lb,v2,-,q2⟩:∃ b,a.tmps.getD 10 undef=.pointer (some ⟨b,0,none⟩)∧w0.heap.size≤b∧Blk 61 w b (cond (k 10) #[.slice (Y i 0).a (Y i 0).n (Y i 0).c,.slice (Y i 1).a (Y i 1).n (Y i 1).c,.slice (Y i 2).a (Y i 2).n (Y i 2).c,.slice (Y i 3).a (Y i 3).n (Y i 3).c,.slice (Y i 4).a (Y i 4).n (Y i 4).c,.slice (Y i 5).a (Y i 5).n (Y i 5).c,.slice (Y i 6).a (Y i 6).n (Y i 6).c,.slice (Y i 7).a (Y i 7).n (Y i 7).c,.slice (Y i 8).a (Y i 8).n (Y i 8).c] #[.slice none 0 0,.slice none 0 0,.slice none 0 0,.slice none 0 0,.slice none 0 0,.slice none 0 0,.slice none 0 0,.slice none 0 0,.slice none 0 0]):=hI.val 8 10 (by decide) rfl (all 8 (by decide))
  rw[all 9 (by decide)] at q1
  rw[all 10 (by decide)] at q2
  exact fin a w cb lb hI.size hI.defers hI.kept v1 v2 hI.world q1 q2
end Go.Proofs.YtbkjhfmehemgpaaGreat

/- Texts put together. -/
import Derived.Test.YthliomlmhfjhnaaGreatZs27
import Derived.Test.YthliomlmhfjhnaaGreatZs29
import Derived.Test.YthliomlmhfjhnaaGreatZs28
import Derived.Maps.AppendAt
namespace Go.Proofs.YthliomlmhfjhnaaGreat
set_option maxRecDepth 20000
set_option maxHeartbeats 16000000
open Go.ChangeShapes Go.WideShapes Go.ChangeAt Go.RowKit
set_option linter.unusedVariables false
set_option linter.unusedSimpArgs false
def allT (l x:Int):Nat:=1+l.toNat*pl (netsN x)+2
def cntOf (d l v u x:Int):Nat→Nat:=planC l.toNat (netsN x) d.toNat (d*d).toNat (x*d).toNat (u*d).toNat (v*d).toNat
def checkB (d h l v u x t n:Int)(m:ModV):Int:=if okB d h l v u x t n then (if framedB l x m then lensZ (seqOf m (netsN x)) (cntOf d l v u x) (allT l x) else 21) else 20
structure Dims (d l v u x:Int):Prop where
 ed:d=(d.toNat:Int)
 el:l=(l.toNat:Int)
 e1:v*d=((v*d).toNat:Int)
 e2:d*d=((d*d).toNat:Int)
 e3:x*d=((x*d).toNat:Int)
 e4:u*d=((u*d).toNat:Int)
 en:max x 1=(netsN x:Int)
 b0:d.toNat≤8
 b1:(v*d).toNat≤1000
 b2:(d*d).toNat≤1000
 b3:(x*d).toNat≤1000
 b4:(u*d).toNat≤1000
 l0:1≤l.toNat
 l1:l.toNat≤2
 n0:1≤netsN x
 n1:netsN x≤4
 d0:2≤d.toNat
 sz:szZ d l v u x=(offs (cntOf d l v u x) (allT l x):Int)
 sz0:0<offs (cntOf d l v u x) (allT l x)
 sz1:offs (cntOf d l v u x) (allT l x)≤10000
theorem dims_of {d h l v u x t n:Int}(ok:okB d h l v u x t n=true):Dims d l v u x:=by
 have r:=right_of ok
 obtain⟨hx,n0,n1⟩:=r.nets
 have d0:=r.d0;have d1:=r.d1;have l0:=r.l0;have l1:=r.l1;have v0:=r.v0;have v1:=r.v1;have u0:=r.u0;have u1:=r.u1;have x0:=r.x0;have x1:=r.x1
 have p1:=mul_bounds (show 0≤v by omega) v1 (show 0≤d by omega) d1
 have p2:=mul_bounds (show 0≤d by omega) d1 (show 0≤d by omega) d1
 have p3:=mul_bounds x0 x1 (show 0≤d by omega) d1
 have p4:=mul_bounds (show 0≤u by omega) u1 (show 0≤d by omega) d1
 have pb:=per_bounds r
 have pl':=mul_bounds (show 0≤l by omega) l1 pb.1 pb.2
 have sz:szZ d l v u x=(offs (cntOf d l v u x) (allT l x):Int):=by
  unfold cntOf allT
  rw[offs_all]
  unfold szZ perN perZ
  rw[Int.natCast_add,Int.natCast_add,Int.natCast_add,Int.natCast_mul,Int.toNat_of_nonneg p1.1,Int.toNat_of_nonneg (show 0≤d by omega),Int.toNat_of_nonneg (show 0≤l by omega)]
  congr 3
  rw[Int.natCast_add,Int.natCast_add,Int.natCast_add,Int.natCast_add,Int.natCast_add,Int.natCast_add,Int.natCast_add,Int.natCast_mul,Int.natCast_add,Int.toNat_of_nonneg p2.1,Int.toNat_of_nonneg (show 0≤d by omega),Int.toNat_of_nonneg p3.1,Int.toNat_of_nonneg p4.1]
 have hs:0<szZ d l v u x∧szZ d l v u x≤10000:=by unfold szZ;omega
 exact⟨by omega,by omega,by omega,by omega,by omega,by omega,hx,by omega,by omega,by omega,by omega,by omega,by omega,by omega,n0,n1,by omega,sz,by omega,by omega⟩
theorem framed_call (d h l v u x t n:Int)(E L N O:SL)(Y U D:Nat→Nat→SL)(m:ModV)(w:World)(hM:ModAt w E L N O Y U D m)(hl0:1≤l)(hl1:l≤1000) :
  Calls Tryz.prog 84 #[.agg #[.int .i64 d,.int .i64 h,.int .i64 l,.int .i64 v,.int .i64 u,.int .i64 x,.int .i64 t,.int .i64 n,.slice E.a E.n E.c,.slice L.a L.n L.c,.slice N.a N.n N.c,.slice O.a O.n O.c]] w fun e w'=>e=.returned (.bool (framedB l x m))∧Below w.heap.size w w':=by
 have len:=hM.len
 by_cases g:(m.ln:Int)=l
 ·obtain⟨x0,hx0⟩:=hM.some_ (by omega)
  rw[hx0]
  refine framed_loop d h v u x t n E L N O Y U D m w hM L.n L.c x0 rfl rfl hx0 (by omega) (max x 1) (framedB l x m) (fun i hi hx=>?_) (fun k=>?_) l (by rw[len];simp[g]) (networks_call d h l v u x t n)
  ·exact decide_eq_false fun k=>by have:=k.2 i (by omega);omega
  ·exact decide_eq_true ⟨g,fun i hi=>k i (by omega)⟩
 ·have e:framedB l x m=false:=decide_eq_false fun k=>g k.1
  rw[e]
  obtain⟨La,eA⟩:∃ q,L.a=q:=⟨_,rfl⟩
  obtain⟨ml,eL⟩:∃ q,L.n=q:=⟨_,rfl⟩
  obtain⟨Lc,eC⟩:∃ q,L.c=q:=⟨_,rfl⟩
  have hb:=bNw (Below.refl w.heap.size w) (.cells #[.int .i64 d,.int .i64 h,.int .i64 l,.int .i64 v,.int .i64 u,.int .i64 x,.int .i64 t,.int .i64 n,.slice E.a E.n E.c,.slice La ml Lc,.slice N.a N.n N.c,.slice O.a O.n O.c] 27)
  rw[eA,eL,eC]
  have g':((ml:Int)==l)=false:=by rw[←eL,len];simp[g]
  clear g e len eA eL eC hM
  go_enter Tryz.func84,Tryz.ntmps84
  go_wp2
  go_ret
  exact⟨rfl,hb⟩
theorem check_walk (d h l v u x t n:Int)(E N O:SL)(La:Option Addr)(ml Lc:Nat)(B1 B2:Bool)(Z:Int)(w:World)
  (k9:∀ w,Calls Tryz.prog 35 #[.agg #[.int .i64 d,.int .i64 h,.int .i64 l,.int .i64 v,.int .i64 u,.int .i64 x,.int .i64 t,.int .i64 n]] w fun e w'=>e=.returned (.bool B1)∧Below w.heap.size w w')
  (k43:B1=true→∀ W,Below w.heap.size w W→Calls Tryz.prog 84 #[.agg #[.int .i64 d,.int .i64 h,.int .i64 l,.int .i64 v,.int .i64 u,.int .i64 x,.int .i64 t,.int .i64 n,.slice E.a E.n E.c,.slice La ml Lc,.slice N.a N.n N.c,.slice O.a O.n O.c]] W fun e w'=>e=.returned (.bool B2)∧Below W.heap.size W w')
  (k32:B1=true→B2=true→∀ W2:World,Below w.heap.size w W2→Blk 27 W2 w.heap.size #[.int .i64 d,.int .i64 h,.int .i64 l,.int .i64 v,.int .i64 u,.int .i64 x,.int .i64 t,.int .i64 n,.slice E.a E.n E.c,.slice La ml Lc,.slice N.a N.n N.c,.slice O.a O.n O.c]→w.heap.size<W2.heap.size →
   Calls Tryz.prog 85 #[.pointer (some ⟨w.heap.size,0,none⟩),.func (.func 86) #[] #[.pointer (some ⟨W2.heap.size,0,none⟩)]] (W2.alloc (.cells #[.int .i64 0] 35)) fun e w'=>e=.returned (.tuple #[])∧Blk 35 w' W2.heap.size #[.int .i64 Z]∧Only W2.heap.size (W2.alloc (.cells #[.int .i64 0] 35)) w') :
  Calls Tryz.prog 47 #[.agg #[.int .i64 d,.int .i64 h,.int .i64 l,.int .i64 v,.int .i64 u,.int .i64 x,.int .i64 t,.int .i64 n,.slice E.a E.n E.c,.slice La ml Lc,.slice N.a N.n N.c,.slice O.a O.n O.c]] w fun e w'=>e=.returned (.int .i64 (if B1 then (if B2 then Z else 21) else 20))∧Below w.heap.size w w':=by
 have hb:=bNw (Below.refl w.heap.size w) (.cells #[.int .i64 d,.int .i64 h,.int .i64 l,.int .i64 v,.int .i64 u,.int .i64 x,.int .i64 t,.int .i64 n,.slice E.a E.n E.c,.slice La ml Lc,.slice N.a N.n N.c,.slice O.a O.n O.c] 27)
 have q0:=Blk.new 27 w #[.int .i64 d,.int .i64 h,.int .i64 l,.int .i64 v,.int .i64 u,.int .i64 x,.int .i64 t,.int .i64 n,.slice E.a E.n E.c,.slice La ml Lc,.slice N.a N.n N.c,.slice O.a O.n O.c]
 have HQ:=hdn q0
 clear q0
 cases B1 with
 | false =>
  clear k43 k32
  show Calls Tryz.prog 47 _ w fun e w'=>e=.returned (.int .i64 20)∧_
  go_enter Tryz.func47,Tryz.ntmps47
  go_wp2_with (first|(go_at_call 35;refine (k9 _).mono ?_;rintro e W1 ⟨rfl,h1⟩;replace hb:=bTn hb h1;clear h1))
  go_ret
  exact⟨rfl,hb⟩
 | true =>
  replace k43:=k43 rfl
  cases B2 with
  | false =>
   clear k32
   show Calls Tryz.prog 47 _ w fun e w'=>e=.returned (.int .i64 21)∧_
   go_enter Tryz.func47,Tryz.ntmps47
   go_wp2_with (first
    | (go_at_call 35;refine (k9 _).mono ?_;rintro e W1 ⟨rfl,h1⟩;replace hb:=bTn hb h1;have q1:=HQ.out.kept h1;obtain⟨a0,a1,a2,a3,a4,a5,a6,a7,a8,a9,a10,a11⟩:=q1.c12;clear h1)
    | (go_at_call 84;refine (k43 _ hb).mono ?_;rintro e W2 ⟨rfl,h2⟩;replace hb:=bTn hb h2;clear h2))
   go_ret
   exact⟨rfl,hb⟩
  | true =>
   replace k32:=k32 rfl rfl
   show Calls Tryz.prog 47 _ w fun e w'=>e=.returned (.int .i64 Z)∧_
   go_enter Tryz.func47,Tryz.ntmps47
   go_wp2_with (first
    | (go_at_call 35;refine (k9 _).mono ?_;rintro e W1 ⟨rfl,h1⟩;replace hb:=bTn hb h1;have q1:=HQ.out.kept h1;obtain⟨a0,a1,a2,a3,a4,a5,a6,a7,a8,a9,a10,a11⟩:=q1.c12;clear h1)
    | (go_at_call 84;refine (k43 _ hb).mono ?_;rintro e W2 ⟨rfl,h2⟩;replace hb:=bTn hb h2;replace q1:=q1.kept h2;clear h2 a0 a1 a2 a3 a4 a5 a6 a7 a8 a9 a10 a11)
    | (go_at_call 85;refine (k32 _ hb q1 q1.lt).mono ?_;rintro e W3 ⟨rfl,q3,o3⟩;have c3:=q3.cell 0 rfl))
   go_ret
   refine⟨rfl,?_⟩
   have:=hb.size
   exact Only.below (bNw hb _) this (by simp;omega) o3
theorem check_call (d h l v u x t n:Int)(E L N O:SL)(Y U D:Nat→Nat→SL)(m:ModV)(w:World)(hM:ModAt w E L N O Y U D m) :
  Calls Tryz.prog 47 #[.agg #[.int .i64 d,.int .i64 h,.int .i64 l,.int .i64 v,.int .i64 u,.int .i64 x,.int .i64 t,.int .i64 n,.slice E.a E.n E.c,.slice L.a L.n L.c,.slice N.a N.n N.c,.slice O.a O.n O.c]] w fun e w'=>e=.returned (.int .i64 (checkB d h l v u x t n m))∧Below w.heap.size w w':=by
 refine check_walk d h l v u x t n E N O L.a L.n L.c (okB d h l v u x t n) (framedB l x m) (lensZ (seqOf m (netsN x)) (cntOf d l v u x) (allT l x)) w (config_call d h l v u x t n) (fun ok W hb=>?_) (fun ok fr W2 hb q hlt=>?_)
 ·have r:=right_of ok
  exact framed_call d h l v u x t n E L N O Y U D m W (hM.below hb) r.l0 (by have:=r.l1;omega)
 ·have dm:=dims_of ok
  have fr':=of_decide_eq_true fr
  have dl:=dm.el
  have hln:m.ln=l.toNat:=by have:=fr'.1;omega
  obtain⟨x0,hx0⟩:=hM.some_ (by have:=dm.l0;omega)
  have b4:=bNw (Below.refl W2.heap.size W2) (.cells #[.int .i64 0] 35)
  have key:=check_visit h v u x t n l.toNat (netsN x) d.toNat (d*d).toNat (x*d).toNat (u*d).toNat (v*d).toNat w.heap.size W2.heap.size L.c x0 E L N O Y U D m (by rw[←dm.ed];exact dm.e1) (by rw[←dm.ed];exact dm.e2) (by rw[←dm.ed];exact dm.e3) (by rw[←dm.ed];exact dm.e4)
   (by have:=dm.b0;omega) dm.b1 dm.b2 dm.b3 dm.b4 (by have:=dm.l1;omega) dm.n1 dm.n0 (W2.alloc (.cells #[.int .i64 0] 35)) w hM (bTn hb b4) (by rw[hx0,hM.len,hln] at q;rw[←dm.ed,←dm.el];exact q.kept b4) (Blk.new 35 W2 _) (by omega) (by omega) hx0 hln
   (fun i hi=>by have:=fr'.2 i (by omega);rw[dm.en] at this;omega)
  exact key
theorem lens_all (S:Nat→List Int)(cnt:Nat→Nat)(T:Nat)(h:lensZ S cnt T=0):∀ k,k<T→(S k).length=cnt k:=fun k hk=>by
 by_cases e:(S k).length=cnt k
 ·exact e
 ·rw[lens_bad S cnt T k hk e] at h
  omega
theorem checked {d h l v u x t n:Int}{m:ModV}(hz:checkB d h l v u x t n m=0):okB d h l v u x t n=true∧m.ln=l.toNat∧(∀ i,i<m.ln→m.un i=netsN x∧m.dn i=netsN x)∧∀ k,k<allT l x→(seqOf m (netsN x) k).length=cntOf d l v u x k:=by
 unfold checkB at hz
 cases ok:okB d h l v u x t n with
 | false=>rw[ok] at hz;simp at hz
 | true =>
  rw[ok] at hz
  cases fr:framedB l x m with
  | false=>rw[fr] at hz;simp at hz
  | true =>
   rw[fr] at hz
   simp only[if_true] at hz
   have dm:=dims_of ok
   have fr':=of_decide_eq_true fr
   have dl:=dm.el
   refine⟨rfl,by omega,fun i hi=>?_,lens_all _ _ _ hz⟩
   have:=fr'.2 i hi
   rw[dm.en] at this
   omega
def Keeps (t:TypeId)(w w':World):Prop:=∀ (b:Nat) (cur:Array Value) (fz:Nat × Nat),w.heap[b]? = some (Obj.cells cur t fz)→w'.heap[b]? = some (Obj.cells cur t fz)
theorem Keeps.trans {t:TypeId}{w w' w'':World}(h:Keeps t w w')(k:Keeps t w' w''):Keeps t w w'':=fun b cur fz e=>k b cur fz (h b cur fz e)
theorem Keeps.of_below {t:TypeId}{w w':World}(hb:Below w.heap.size w w'):Keeps t w w':=fun b cur fz e=>(hb.block b (Array.getElem?_eq_some_iff.1 e).1).trans e
theorem Keeps.of_grown {t t':TypeId}{w w':World}{g:Nat}{c:Array Value}{f:Nat × Nat}(h:w.grownBy w' (some g))(hg:w.heap[g]? = some (.cells c t' f))(ht:t≠t'):Keeps t w w':=fun b cur fz e=>by
 refine (h.block b (Array.getElem?_eq_some_iff.1 e).1 fun k=>?_).trans e
 obtain rfl:=Option.some.inj k
 rw[hg] at e
 simp at e
 exact ht e.2.1.symm
theorem Keeps.of_only {t t':TypeId}{w w':World}{g:Nat}{c:Array Value}(h:Only g w w')(hg:Blk t' w g c)(ht:t≠t'):Keeps t w w':=Keeps.of_grown h hg ht
theorem Keeps.of_own {t t':TypeId}{w w':World}{B n sz:Nat}{v:Value}{xs:List Value}(h:w.grownBy w' v.ownBlock)(ho:w.ownsRow B t' sz v n xs)(ht:t≠t'):Keeps t w w':=by
 rcases ho.2 with⟨e,_⟩|⟨g,cap,cur,e,_,hg,_⟩
 ·rw[e] at h
  exact fun b cur fz e=>(h.block b (Array.getElem?_eq_some_iff.1 e).1 (by simp[Value.ownBlock])).trans e
 ·rw[e] at h
  exact Keeps.of_grown h hg ht
theorem Keeps.blk {t:TypeId}{w w':World}{b:Nat}{cs:Array Value}(h:Keeps t w w')(q:Blk t w b cs):Blk t w' b cs:=h b cs (0,0) q
theorem Keeps.own {t:TypeId}{w w':World}{B n sz:Nat}{v:Value}{xs:List Value}(h:Keeps t w w')(ho:w.ownsRow B t sz v n xs):w'.ownsRow B t sz v n xs:=by
 refine⟨ho.1,?_⟩
 rcases ho.2 with h2|⟨g,cap,cur,hv,hg,hh,r⟩
 ·exact .inl h2
 ·exact .inr ⟨g,cap,cur,hv,hg,h g cur (0,0) hh,r⟩
structure TS (B:Nat) (w:World) (s:SL) (zs:List Int):Prop where
 is:IsS w s zs
 blk:∀ x,s.a=some x→B≤x.block∧∃ cur fz,w.heap[x.block]? = some (.cells cur 73 fz)
theorem TS.step {B:Nat}{w w':World}{s:SL}{zs:List Int}(h:TS B w s zs)(k:Keeps 73 w w'):TS B w' s zs:=by
 refine⟨⟨⟨h.is.reads.len,h.is.reads.max,h.is.reads.wf,h.is.reads.some_,fun x hx i hi=>?_⟩,h.is.nil,h.is.cap⟩,fun x hx=>?_⟩
 ·obtain⟨_,cur,fz,e⟩:=h.blk x hx
  have c:=h.is.reads.cell x hx i hi
  have eb:(x.add i).block=x.block:=by unfold Addr.add;split<;>rfl
  have:=World.cell?_of_block (w:=w) (w':=w') (a:=x.add i) (by rw[eb,e];exact k _ _ _ e)
  rw[this]
  exact c
 ·obtain⟨h1,cur,fz,e⟩:=h.blk x hx
  exact⟨h1,cur,fz,k _ _ _ e⟩
theorem TS.below {B:Nat}{w w':World}{s:SL}{zs:List Int}(h:TS B w s zs)(hb:Below w.heap.size w w'):TS B w' s zs:=h.step (Keeps.of_below hb)
theorem TS.new {B:Nat}{w:World}{s:SL}{zs:List Int}(h:TS B w s zs):NewS B w s zs:=fun w' hf =>
 ⟨⟨h.is.reads.len,h.is.reads.max,h.is.reads.wf,h.is.reads.some_,fun x hx i hi=>hf _ _ (h.is.reads.cell x hx i hi) (by
  have:=(h.blk x hx).1
  have eb:(x.add i).block=x.block:=by unfold Addr.add;split<;>rfl
  omega)⟩,h.is.nil,h.is.cap⟩
structure TG (B:Nat) (w:World) (v:Value) (k:Nat) (R:Nat→SL) (Z:Nat→List Int):Prop where
 own:w.ownsRow B 24 1 v k (cellsG R k)
 row:∀ j,j<k→TS B w (R j) (Z j)
theorem TG.step {B:Nat}{w w':World}{v:Value}{k:Nat}{R:Nat→SL}{Z:Nat→List Int}(h:TG B w v k R Z)(k1:Keeps 73 w w')(k2:Keeps 24 w w'):TG B w' v k R Z:=⟨k2.own h.own,fun j hj=>(h.row j hj).step k1⟩
theorem TG.new {B:Nat}{w:World}{v:Value}{k:Nat}{R:Nat→SL}{Z:Nat→List Int}(h:TG B w v k R Z):∃ s:SL,v=s.v∧NewG B w s k R Z:=newG_of h.own fun j hj=>(h.row j hj).new
theorem TG.nil (B:Nat)(w:World)(R:Nat→SL)(Z:Nat→List Int):TG B w (.slice none 0 0) 0 R Z:=⟨World.ownsRow_nil _ _ _ _,fun j hj=>by omega⟩
structure TY (B:Nat) (w:World) (Y:Nat→SL) (U D:Nat→SL) (f:Nat→List Int) (un dn:Nat) (u d:Nat→List Int):Prop where
 f:∀ j,j<7→TS B w (Y j) (f j)
 u:TG B w (Y 7).v un U u
 d:TG B w (Y 8).v dn D d
theorem TY.step {B:Nat}{w w':World}{Y U D:Nat→SL}{f:Nat→List Int}{un dn:Nat}{u d:Nat→List Int}(h:TY B w Y U D f un dn u d)(k1:Keeps 73 w w')(k2:Keeps 24 w w'):TY B w' Y U D f un dn u d:=⟨fun j hj=>(h.f j hj).step k1,h.u.step k1 k2,h.d.step k1 k2⟩
theorem SL.v_inj {s t:SL}(h:s.v=t.v):s=t:=by
 obtain⟨a,n,c⟩:=s
 obtain⟨a',n',c'⟩:=t
 simp only[SL.v,Value.slice.injEq] at h
 obtain⟨rfl,rfl,rfl⟩:=h
 rfl
theorem TY.new {B:Nat}{w:World}{Y U D:Nat→SL}{f:Nat→List Int}{un dn:Nat}{u d:Nat→List Int}(h:TY B w Y U D f un dn u d):NewY B w Y U D f un dn u d:=by
 obtain⟨s,e,hs⟩:=h.u.new
 obtain⟨s',e',hs'⟩:=h.d.new
 obtain rfl:=SL.v_inj e
 obtain rfl:=SL.v_inj e'
 exact newY_of (fun j hj=>(h.f j hj).new) hs hs'
structure TL (B:Nat) (w:World) (v:Value) (n:Nat) (Y U D:Nat→Nat→SL) (m:ModV):Prop where
 own:w.ownsRow B 65 9 v n (cells9 Y n)
 lay:∀ i,i<n→TY B w (Y i) (U i) (D i) (m.f i) (m.un i) (m.dn i) (m.u i) (m.d i)
theorem TL.nil (B:Nat)(w:World)(Y U D:Nat→Nat→SL)(m:ModV):TL B w (.slice none 0 0) 0 Y U D m:=⟨World.ownsRow_nil _ _ _ _,fun j hj=>by omega⟩
theorem TL.new {B:Nat}{w:World}{v:Value}{E N O:SL}{Y U D:Nat→Nat→SL}{m:ModV}(h:TL B w v m.ln Y U D m)(he:TS B w E m.e)(hn:TS B w N m.nm)(ho:TS B w O m.o):∃ L:SL,v=L.v∧NewM B w E L N O Y U D m :=
 newM_of h.own (fun i hi=>(h.lay i hi).new) he.new hn.new ho.new
def upd {α:Type}(F:Nat→α)(i:Nat)(x:α):Nat→α:=fun j=>if j=i then x else F j
theorem upd_same {α:Type}(F:Nat→α)(i:Nat)(x:α):upd F i x i=x:=if_pos rfl
theorem upd_other {α:Type}(F:Nat→α)(i:Nat)(x:α){j:Nat}(h:j≠i):upd F i x j=F j:=if_neg h
theorem run_copy_ts (w:World)(g:Nat)(B:Nat)(ty:TypeId)(s:SL)(zs:List Int)(hs:IsS w s zs)(hl:zs.length≤140737488355328)(hg:B≤g)(hq:Blk 73 w g #[])(hB:B≤w.heap.size):∃ s' w',(Builtin.append_ #[24,24] ty #[.slice (some ⟨g,0,none⟩) 0 0,.slice s.a s.n s.c]).run Tryz.prog w=.ok (SL.v s') w'∧Below w.heap.size w w'∧TS B w' s' zs:=by
 have own0:w.ownsRow B 73 1 (.slice (some ⟨g,0,none⟩) 0 0) 0 []:=⟨rfl,.inr ⟨g,0,#[],rfl,hg,hq,Nat.le_refl _,by unfold maxLen;omega,rfl,rfl⟩⟩
 obtain⟨s',w',hr,hn,hb,ho⟩:=run_copy_own w g B ty s zs hs hl own0 hB
 refine⟨s',w',hr,hb,?_⟩
 have hlen:=hs.reads.len
 obtain⟨a,c,e,hre⟩:=oRe (k:=.i8) ho (by omega) hs.reads.wf_mem (fun j hj=>copy_at .i8 zs j (by omega))
 have e':s'=⟨a,s'.n,c⟩:=SL.v_inj e
 rcases ho.2 with⟨h1,h2⟩|⟨g',cap,cur,h1,h2,h3,h4,_⟩
 ·have:s'=⟨none,0,0⟩:=SL.v_inj h1
  subst this
  have ha:a=none:=by simp at e';exact e'.1.symm
  subst ha
  exact⟨⟨hre,fun _=>rfl,Nat.le_refl _⟩,fun x hx=>by cases hx⟩
 ·have e2:s'=⟨some ⟨g',0,none⟩,s'.n,cap⟩:=SL.v_inj h1
  have ha:a=some ⟨g',0,none⟩:=by rw[e2] at e';simp at e';exact e'.1.symm
  have hc:c=cap:=by rw[e2] at e';simp at e';exact e'.2.symm
  subst ha
  subst hc
  rw[e2]
  exact⟨⟨by simpa using hre,(fun h=>by cases h),h4⟩,fun x hx=>by obtain rfl:=Option.some.inj hx;exact⟨h2,cur,(0,0),h3⟩⟩
def copD (k base i:Nat):Option Nat:=if i<4*k then some (base+i) else if (i-4*k)%2=0 then some (base+4*k+(i-4*k)/2) else none
theorem copD_inj {k base:Nat}{i j d:Nat}(hi:i<6*k)(hj:j<6*k)(h1:copD k base i=some d)(h2:copD k base j=some d):i=j:=by
 unfold copD at h1 h2
 split at h1<;>split at h2
 ·simp at h1 h2;omega
 ·split at h2
  ·simp at h1 h2;omega
  ·cases h2
 ·split at h1
  ·simp at h1 h2;omega
  ·cases h1
 ·split at h1
  ·split at h2
   ·simp at h1 h2;omega
   ·cases h2
  ·cases h1
theorem copD_low {k base i s:Nat}(h:s<base):copD k base i≠some s:=by
 intro e
 unfold copD at e
 split at e
 ·simp at e;omega
 ·split at e
  ·simp at e;omega
  ·cases e
theorem copD_high {k base i s:Nat}(hi:i<6*k)(h:base+5*k≤s):copD k base i≠some s:=by
 intro e
 unfold copD at e
 split at e
 ·simp at e;omega
 ·split at e
  ·simp at e;omega
  ·cases e
def copF (k f0 tb B:Nat)(Y:Nat→SL)(Z:Nat→List Int)(i:Nat)(v:Value)(w:World):Prop :=
 if i<4*k then
  (if i%4=0 then ∃ g,v=.slice (some ⟨g,0,none⟩) 0 0∧B≤g∧Blk 73 w g #[] else if i%4=1 then v=.pointer (some ⟨tb,f0+i/4,none⟩) else if i%4=2 then v=(Y (i/4)).v else ∃ s:SL,v=s.v∧TS B w s (Z (i/4)))
 else (i-4*k)%2=0→v=.pointer (some ⟨tb,f0+(i-4*k)/2,none⟩)
theorem copF_step {k f0 tb B:Nat}{Y:Nat→SL}{Z:Nat→List Int}{i:Nat}{v:Value}{w w':World}(h:copF k f0 tb B Y Z i v w)(hk:Keeps 73 w w'):copF k f0 tb B Y Z i v w':=by
 unfold copF at h ⊢
 split
 ·rename_i h1
  rw[if_pos h1] at h
  split
  ·rename_i h2
   rw[if_pos h2] at h
   obtain⟨g,e1,e2,e3⟩:=h
   exact⟨g,e1,e2,hk.blk e3⟩
  ·rename_i h2
   rw[if_neg h2] at h
   split
   ·rename_i h3
    rw[if_pos h3] at h
    exact h
   ·rename_i h3
    rw[if_neg h3] at h
    split
    ·rename_i h4
     rw[if_pos h4] at h
     exact h
    ·rename_i h4
     rw[if_neg h4] at h
     obtain⟨s,e1,e2⟩:=h
     exact⟨s,e1,e2.step hk⟩
 ·rename_i h1
  rw[if_neg h1] at h
  exact h
def copR (k base f0 tb:Nat)(old:Nat→Value)(w0:World)(l:Nat→Bool)(a:Act)(w:World):Prop :=
 Only tb w0 w∧(∀ j,j<k→(l (4*k+2*j+1)=true→l (4*j+3)=true)∧(l (4*j+3)=true→l (4*j+2)=true)) ∧
 ∃ cs:Array Value,Blk 65 w tb cs∧cs.size=9∧∀ f,f<9→cs[f]? = some (if f0≤f∧f<f0+k∧l (4*k+2*(f-f0)+1)=true then a.tmps.getD (base+4*(f-f0)+3) undef else old f)
theorem copies_region {id:Nat}{ops:Array Oper}{Q:Exit→Act→World→Prop}{a0:Act}{w0:World}(k base f0 tb:Nat)(Y:Nat→SL)(Z:Nat→List Int)(old:Nat→Value)(cs0:Array Value)(hB:lowB ops=true)(hsz:ops.size=6*k)
  (hops:∀ j,j<k→OpAt ops (4*j) (some (base+4*j)) (.buildSlice 24 0 #[]) []∧OpAt ops (4*j+1) (some (base+4*j+1)) (.fieldAddr 65 (.tmp 5) (f0+j)) []∧OpAt ops (4*j+2) (some (base+4*j+2)) (.load 24 (.tmp (base+4*j+1))) [4*j+1] ∧
   OpAt ops (4*j+3) (some (base+4*j+3)) (.call { callee:=.builtin .append,args:=#[.tmp (base+4*j),.tmp (base+4*j+2)],argTypes:=#[24,24] }) [4*j,4*j+2] ∧
   OpAt ops (4*k+2*j) (some (base+4*k+j)) (.fieldAddr 65 (.tmp 5) (f0+j)) []∧OpAt ops (4*k+2*j+1) none (.store 24 (.tmp (base+4*k+j)) (.tmp (base+4*j+3))) [4*k+2*j,4*j+3])
  (h5:a0.tmps.getD 5 undef=.pointer (some ⟨tb,0,none⟩)) (hb5:5<base) (hN:base+5*k≤a0.tmps.size) (hf0:f0+k≤9)
  (q0:Blk 65 w0 tb cs0) (hcs:cs0.size=9) (hold:∀ f,f<9→cs0[f]? = some (old f)) (hY:∀ j,j<k→old (f0+j)=(Y j).v∧IsS w0 (Y j) (Z j)∧(Z j).length≤140737488355328∧∀ x,(Y j).a=some x→0<(Y j).n→x.block≠tb)
  (fin:∀ a w (S:Nat→SL) cs,a.tmps.size=a0.tmps.size→a.defers=a0.defers→(∀ s,s<base∨base+5*k≤s→a.tmps.getD s undef=a0.tmps.getD s undef)→Only tb w0 w→Blk 65 w tb cs→cs.size=9→(∀ f,f<9→cs[f]? = some (if f0≤f∧f<f0+k then (S (f-f0)).v else old f))→(∀ j,j<k→TS w0.heap.size w (S j) (Z j))→Q .normal a w) :
  (Code.region id ops true).wp Tryz.prog Q a0 w0:=by
 have htb:=q0.lt
 refine wp_region_inv (by kernel_rfl) hB (Inv (6*k) (copD k base) a0 (copR k base f0 tb old w0) (fun _=>copF k f0 tb w0.heap.size Y Z)) (Inv.start ⟨⟨rfl,rfl,rfl,Nat.le_refl _,fun _ _ _=>rfl⟩,(fun j _=>⟨(fun h=>by cases h),(fun h=>by cases h)⟩),cs0,q0,hcs,fun f hf=>by rw[hold f hf,if_neg (by simp)]⟩) ?_ ?_
 ·intro l i o a w ho hl hdep hI
  have hi:i<6*k:=by rw[←hsz];exact (Array.getElem?_eq_some_iff.1 ho).1
  obtain⟨honly,hst,cs,hq,hcz,hcell⟩:=hI.world
  have hsB:=honly.size
  have ev:∀ (s:Nat),a.eval (.tmp s)=a.tmps.getD s undef:=fun _=>rfl
  have inj:∀ d,copD k base i=some d→∀ j d',j<6*k→copD k base j=some d'→j≠i→d'≠d:=fun d hd j d' hj hd' hne e=>hne (copD_inj hj hi (by rw[hd',e]) hd)
  have e5':a.eval (.tmp 5)=.pointer (some ⟨tb,0,none⟩):=(hI.kept 5 (fun j _=>copD_low (by omega))).trans h5
  have hlen:∀ d v,(a.put (some d) v).tmps.size=a.tmps.size:=fun d v=>by show (a.tmps.setIfInBounds d v).size=_;rw[Array.size_setIfInBounds]
  -- an operation that leaves a value and keeps,or grows,the world
  have go:∀ {d v w'},copD k base i=some d→Below w.heap.size w w'→(∀ j,j<k→i≠4*k+2*j+1)→(∀ j,j<k→i=4*j+3→l (4*j+2)=true)→copF k f0 tb w0.heap.size Y Z i v w'→Inv (6*k) (copD k base) a0 (copR k base f0 tb old w0) (fun _=>copF k f0 tb w0.heap.size Y Z) (fun j=>l j || j==i) (a.put (some d) v) w':=by
   intro d v w' hD hw hne hdl hF
   have hd:d<a0.tmps.size:=by
    unfold copD at hD
    split at hD
    ·simp at hD;omega
    ·split at hD
     ·simp at hD;omega
     ·cases hD
   refine hI.put hi hD hd (inj d hD) ⟨honly.trans (Only.of_below hw),fun j hj=>⟨fun h=>?_,fun h=>?_⟩,cs,hq.kept hw,hcz,fun f hf=>?_⟩ hF fun j u _ _ _ hf=>copF_step hf (Keeps.of_below hw)
   ·have:l (4*k+2*j+1)=true:=by
     simp only[Bool.or_eq_true,beq_iff_eq] at h
     rcases h with h|h
     ·exact h
     ·exact absurd h.symm (hne j hj)
    simp[(hst j hj).1 this]
   ·simp only[Bool.or_eq_true,beq_iff_eq] at h
    rcases h with h|h
    ·simp[(hst j hj).2 h]
    ·simp[hdl j hj h.symm]
   ·rw[hcell f hf]
    congr 1
    by_cases c:f0≤f∧f<f0+k
    ·have hj:f-f0<k:=by omega
     have e1:(l (4*k+2*(f-f0)+1) || 4*k+2*(f-f0)+1==i)=l (4*k+2*(f-f0)+1):=by
      have:(4*k+2*(f-f0)+1==i)=false:=by simp;exact Ne.symm (hne _ hj)
      rw[this,Bool.or_false]
     simp only[e1]
     by_cases h:l (4*k+2*(f-f0)+1)=true
     ·rw[if_pos ⟨c.1,c.2,h⟩,if_pos ⟨c.1,c.2,h⟩,get_put a d v _ (by rw[hI.size];exact hd),if_neg]
      intro e
      have h3:=(hst _ hj).1 h
      have:i=4*(f-f0)+3:=copD_inj (d:=d) hi (by omega) hD (by unfold copD;rw[if_pos (by omega),←e];congr 1)
      rw[this] at hl
      rw[hl] at h3
      cases h3
     ·rw[if_neg (fun h'=>h h'.2.2),if_neg (fun h'=>h h'.2.2)]
    ·rw[if_neg (fun h'=>c ⟨h'.1,h'.2.1⟩),if_neg (fun h'=>c ⟨h'.1,h'.2.1⟩)]
  by_cases hi4:i<4*k
  ·obtain⟨j,r,hj,hr,rfl⟩:∃ j r,j<k∧r<4∧i=4*j+r:=⟨i/4,i%4,by omega,by omega,by omega⟩
   have hD:copD k base (4*j+r)=some (base+(4*j+r)):=by unfold copD;rw[if_pos hi4]
   obtain⟨o0,o1,o2,o3,_,_⟩:=hops j hj
   have dv:∀ r,r<4→(4*j+r)%4=r∧(4*j+r)/4=j:=fun r hr=>by omega
   have val:∀ r',r'<4→l (4*j+r')=true→copF k f0 tb w0.heap.size Y Z (4*j+r') (a.tmps.getD (base+(4*j+r')) undef) w:=fun r' hr' h=>hI.val (4*j+r') (base+(4*j+r')) (by omega) (by unfold copD;rw[if_pos (by omega)]) h
   rcases (show r=0∨r=1∨r=2∨r=3 by omega) with rfl|rfl|rfl|rfl
   ·obtain⟨o',e1,e2,e3,e4,e5⟩:=o0
    obtain rfl:=sOp ho e1
    refine wVa (v:=.slice (some ⟨w.heap.size,0,none⟩) 0 0) (w':=w.alloc (.cells #[] 73)) ho e4 ?_ (by rw[e2];exact go hD (bNw (Below.refl _ _) _) (fun j' _=>by omega) (fun j' _ h=>by omega) (by unfold copF;rw[if_pos hi4,if_pos (dv 0 hr).1];exact⟨_,rfl,hsB,Blk.new 73 w #[]⟩))
    simp[execOp,e3,run_build0]
   ·obtain⟨o',e1,e2,e3,e4,e5⟩:=o1
    obtain rfl:=sOp ho e1
    refine wVa (v:=.pointer (some ⟨tb,f0+j,none⟩)) (w':=w) ho e4 ?_ (by rw[e2];exact go hD (Below.refl _ _) (fun j' _=>by omega) (fun j' _ h=>by omega) (by unfold copF;rw[if_pos hi4,if_neg (by have:=(dv 1 hr).1;omega),if_pos (dv 1 hr).1,(dv 1 hr).2]))
    simp[execOp,e3,e5',run_field tb (f0+j) (by omega)]
   ·obtain⟨o',e1,e2,e3,e4,e5⟩:=o2
    obtain rfl:=sOp ho e1
    have dp:=dPo e5 hdep
    have ev1:=val 1 (by omega) (dp _ (by simp))
    unfold copF at ev1
    rw[if_pos (by omega),if_neg (by have:=(dv 1 (by omega)).1;omega),if_pos (dv 1 (by omega)).1,(dv 1 (by omega)).2] at ev1
    have hnst:¬l (4*k+2*j+1)=true:=fun h=>by
     have h2:=(hst j hj).2 ((hst j hj).1 h)
     rw[hl] at h2
     cases h2
    have hc:=hcell (f0+j) (by omega)
    rw[show f0+j-f0=j by omega,if_neg (fun h=>hnst h.2.2),(hY j hj).1] at hc
    have hcc:=hq.cell (f0+j) hc
    refine wVa (v:=(Y j).v) (w':=w) ho e4 ?_ (by rw[e2];exact go hD (Below.refl _ _) (fun j' _=>by omega) (fun j' _ h=>by omega) (by unfold copF;rw[if_pos hi4,if_neg (by have:=(dv 2 hr).1;omega),if_neg (by have:=(dv 2 hr).1;omega),if_pos (dv 2 hr).1,(dv 2 hr).2]))
    simp[execOp,e3,ev,Nat.add_assoc,ev1,run_load24 hcc,SL.v]
   ·obtain⟨o',e1,e2,e3,e4,e5⟩:=o3
    obtain rfl:=sOp ho e1
    have dp:=dPo e5 hdep
    have ev0:=val 0 (by omega) (dp _ (by simp))
    unfold copF at ev0
    rw[if_pos (by omega),if_pos (dv 0 (by omega)).1] at ev0
    obtain⟨g,ev1,hgB,hgq⟩:=ev0
    have ev2:=val 2 (by omega) (dp _ (by simp))
    unfold copF at ev2
    rw[if_pos (by omega),if_neg (by have:=(dv 2 (by omega)).1;omega),if_neg (by have:=(dv 2 (by omega)).1;omega),if_pos (dv 2 (by omega)).1,(dv 2 (by omega)).2] at ev2
    obtain⟨_,hSj,hZj,hne⟩:=hY j hj
    have hSw:IsS w (Y j) (Z j):=⟨hSj.reads.other honly (fun x hx h0=>hne x hx h0),hSj.nil,hSj.cap⟩
    obtain⟨s',w',hrn,hbw,hts⟩:=run_copy_ts w g w0.heap.size o.type (Y j) (Z j) hSw hZj hgB hgq hsB
    refine wVa (v:=s'.v) (w':=w') ho e4 ?_ (by rw[e2];exact go hD hbw (fun j' _=>by omega) (fun j' hj' h=>(show j=j' by omega) ▸ dp (4*j+2) (by simp)) (by unfold copF;rw[if_pos hi4,if_neg (by have:=(dv 3 hr).1;omega),if_neg (by have:=(dv 3 hr).1;omega),if_neg (by have:=(dv 3 hr).1;omega),(dv 3 hr).2];exact⟨s',rfl,hts⟩))
    simp only[Nat.add_zero] at ev1
    rw[←Nat.add_assoc] at ev2
    simp only[execOp,e3,resolve,invoke,builtin,Sem.run_bind,Sem.run_pure,Result.andThen_ok,List.map_toArray,List.map_cons,List.map_nil,ev,ev1,ev2,SL.v,hrn]
  ·obtain⟨j,r,hj,hr,rfl⟩:∃ j r,j<k∧r<2∧i=4*k+2*j+r:=⟨(i-4*k)/2,(i-4*k)%2,by omega,by omega,by omega⟩
   obtain⟨_,_,_,_,o4,o5⟩:=hops j hj
   rcases (show r=0∨r=1 by omega) with rfl|rfl
   ·obtain⟨o',e1,e2,e3,e4,e5⟩:=o4
    obtain rfl:=sOp ho e1
    have hD:copD k base (4*k+2*j+0)=some (base+4*k+j):=by unfold copD;rw[if_neg (by omega),if_pos (by omega)];congr 1;omega
    refine wVa (v:=.pointer (some ⟨tb,f0+j,none⟩)) (w':=w) ho e4 ?_ (by rw[e2];exact go hD (Below.refl _ _) (fun j' _=>by omega) (fun j' _ h=>by omega) (by unfold copF;rw[if_neg (by omega)];intro _;congr 3;omega))
    simp[execOp,e3,e5',run_field tb (f0+j) (by omega)]
   ·obtain⟨o',e1,e2,e3,e4,e5⟩:=o5
    obtain rfl:=sOp ho e1
    have dp:=dPo e5 hdep
    have ev1:=hI.val (4*k+2*j) (base+4*k+j) (by omega) (by unfold copD;rw[if_neg (by omega),if_pos (by omega)];congr 1;omega) (dp _ (by simp))
    unfold copF at ev1
    rw[if_neg (by omega)] at ev1
    replace ev1:=ev1 (by omega)
    rw[show (4*k+2*j-4*k)/2=j by omega] at ev1
    have h3:=dp (4*j+3) (by simp)
    have ev2:=hI.val (4*j+3) (base+(4*j+3)) (by omega) (by unfold copD;rw[if_pos (by omega)]) h3
    unfold copF at ev2
    rw[if_pos (by omega),if_neg (by omega),if_neg (by omega),if_neg (by omega),show (4*j+3)/4=j by omega,←Nat.add_assoc] at ev2
    obtain⟨s,es,hts⟩:=ev2
    have hc:=hcell (f0+j) (by omega)
    have hcc:=hq.cell (f0+j) hc
    have hfz:=hq.open_ (f0+j)
    have ht5:Keeps 73 w (w.setCell ⟨tb,f0+j,none⟩ s.v):=Keeps.of_only (Only.set tb (f0+j) w s.v) hq (by decide)
    refine wSk (w':=w.setCell ⟨tb,f0+j,none⟩ s.v) ho e4 ?_ ?_
    ·have hrn:=run_store24 (a:=s.a) (n:=s.n) (c:=s.c) hcc hfz
     simp[execOp,e3,ev,ev1,es,SL.v,hrn]
    ·rw[e2]
     refine hI.none_ (by unfold copD;rw[if_neg (by omega),if_neg (by omega)]) ⟨honly.trans (Only.set tb (f0+j) w s.v),fun j' hj'=>⟨fun h=>?_,fun h=>?_⟩,cs.setIfInBounds (f0+j) s.v,hq.set (f0+j) s.v,by rw[Array.size_setIfInBounds];exact hcz,fun f hf=>?_⟩ fun j' u _ _ _ hf=>copF_step hf ht5
     ·simp only[Bool.or_eq_true,beq_iff_eq] at h ⊢
      rcases h with h|h
      ·exact .inl ((hst j' hj').1 h)
      ·obtain rfl:j=j':=by omega
       exact .inl h3
     ·simp only[Bool.or_eq_true,beq_iff_eq] at h ⊢
      rcases h with h|h
      ·exact .inl ((hst j' hj').2 h)
      ·omega
     ·rw[Array.getElem?_setIfInBounds]
      by_cases e:f0+j=f
      ·subst e
       rw[if_pos rfl,if_pos (by omega),if_pos ⟨by omega,by omega,by rw[show f0+j-f0=j by omega];simp⟩,show f0+j-f0=j by omega,es]
      ·rw[if_neg e,hcell f hf]
       congr 1
       by_cases c:f0≤f∧f<f0+k
       ·have e1:(l (4*k+2*(f-f0)+1) || 4*k+2*(f-f0)+1==4*k+2*j+1)=l (4*k+2*(f-f0)+1):=by
         have:(4*k+2*(f-f0)+1==4*k+2*j+1)=false:=by simp;omega
         rw[this,Bool.or_false]
        simp only[e1]
       ·rw[if_neg (fun h'=>c ⟨h'.1,h'.2.1⟩),if_neg (fun h'=>c ⟨h'.1,h'.2.1⟩)]
 ·intro l a w hall hI
  obtain⟨honly,hst,cs,hq,hcz,hcell⟩:=hI.world
  have hv:∀ j,j<k→∃ s:SL,a.tmps.getD (base+4*j+3) undef=s.v∧TS w0.heap.size w s (Z j):=fun j hj=>by
   have ev2:=hI.val (4*j+3) (base+(4*j+3)) (by omega) (by unfold copD;rw[if_pos (by omega)]) (hall _ (by omega))
   unfold copF at ev2
   rw[if_pos (by omega),if_neg (by omega),if_neg (by omega),if_neg (by omega),show (4*j+3)/4=j by omega,←Nat.add_assoc] at ev2
   exact ev2
  obtain⟨S,hS⟩:∃ S:Nat→SL,∀ j,j<k→a.tmps.getD (base+4*j+3) undef=(S j).v∧TS w0.heap.size w (S j) (Z j):=by
   refine⟨fun j=>if h:j<k then (hv j h).choose else SL.nought,fun j hj=>?_⟩
   simp only[dif_pos hj]
   exact (hv j hj).choose_spec
  refine fin a w S cs hI.size hI.defers (fun s hs=>hI.kept s fun i hi=>?_) honly hq hcz (fun f hf=>?_) fun j hj=>(hS j hj).2
  ·rcases hs with h|h
   ·exact copD_low h
   ·exact copD_high hi h
  ·rw[hcell f hf]
   congr 1
   by_cases c:f0≤f∧f<f0+k
   ·rw[if_pos c,if_pos ⟨c.1,c.2,hall _ (by omega)⟩]
    exact (hS (f-f0) (by omega)).1
   ·rw[if_neg c,if_neg (fun h'=>c ⟨h'.1,h'.2.1⟩)]
theorem wpList_copy_ts {ops:Array Oper}{rest:List Oper}{o:Oper}{a:Act}{w:World}{Q:Exit→Act→World→Prop}(hgd:o.guard=none)(s x:Operand)(ho:o.op=.call { callee:=.builtin .append,args:=#[s,x],argTypes:=#[24,24] })
  (B g:Nat) (S:SL) (zs:List Int) (hs:a.eval s=.slice (some ⟨g,0,none⟩) 0 0) (hx:a.eval x=.slice S.a S.n S.c) (hS:IsS w S zs) (hl:zs.length≤140737488355328) (hg:B≤g) (hq:Blk 73 w g #[]) (hB:B≤w.heap.size)
  (h:∀ s' w',Below w.heap.size w w'→TS B w' s' zs→wpList Tryz.prog ops Q rest (a.put o.dst (.slice s'.a s'.n s'.c)) w'):wpList Tryz.prog ops Q (o :: rest) a w:=by
 refine wpList_plain hgd fun K hK=>?_
 obtain⟨s',w',hr,hb,ht⟩:=run_copy_ts w g B o.type S zs hS hl hg hq hB
 unfold Oper.wp execOp
 simp only[ho,resolve,invoke,builtin,Sem.run_bind,Sem.run_pure,Result.andThen_ok,List.map_toArray,List.map_cons,List.map_nil,hs,hx,hr]
 exact hK _ _ (h s' w' hb ht)
theorem wpList_push {ops:Array Oper}{rest:List Oper}{o:Oper}{a:Act}{w:World}{Q:Exit→Act→World→Prop}(hgd:o.guard=none)(s x:Operand)(ho:o.op=.call { callee:=.builtin .append,args:=#[s,x],argTypes:=#[63,63] })
  (B k:Nat) (v:Value) (R:Nat→SL) (Z:Nat→List Int) (S:SL) (g c:Nat) (hs:a.eval s=v) (hx:a.eval x=.slice (some ⟨g,0,none⟩) 1 c) (hT:TG B w v k R Z) (hc:w.cell? ⟨g,0,none⟩=some S.v) (hS:TS B w S (Z k)) (hl:(k+1)*24≤140737488355328) (hB:B≤w.heap.size)
  (h:∀ v' w',Below B w w'→Keeps 27 w w'→Keeps 65 w w'→TG B w' v' (k+1) (upd R k S) Z→wpList Tryz.prog ops Q rest (a.put o.dst v') w'):wpList Tryz.prog ops Q (o :: rest) a w:=by
 obtain⟨i0,hi,hz0,hz1,hz2⟩:=i24'
 refine wpList_plain hgd fun K hK=>?_
 refine wp_append_own w s x 63 ho B 24 i0 nilS 1 24 Tryz.underlying63 hi hz0 hz1 hz2 rfl (by decide) v k _ hs hT.own ⟨g,0,none⟩ 1 c [S.v] hx rfl (fun j u hj=>by
  match j,hj with
  | 0,hj=>simp at hj;subst hj;simpa [Addr.add] using hc) (fun u hu=>by simp at hu;subst hu;rfl) (by unfold maxLen;omega) hl hB fun v' w' own' hg _=>hK _ _ (h v' w' ?_ ?_ ?_ ?_)
 ·exact (Below.refl B w).grown hg hB fun g h=>(hT.own.lt g h).1
 ·exact Keeps.of_own hg hT.own (by decide)
 ·exact Keeps.of_own hg hT.own (by decide)
 ·have k46:Keeps 73 w w':=Keeps.of_own hg hT.own (by decide)
  refine⟨?_,fun j hj=>?_⟩
  ·rw[cellsG_succ,upd_same,cellsG_congr (R':=R) (fun j hj=>upd_other R k S (by omega))]
   exact own'
  ·by_cases e:j=k
   ·subst e
    rw[upd_same]
    exact hS.step k46
   ·rw[upd_other R k S e]
    exact (hT.row j (by omega)).step k46
theorem wpList_layer {ops:Array Oper}{rest:List Oper}{o:Oper}{a:Act}{w:World}{Q:Exit→Act→World→Prop}(hgd:o.guard=none)(s x:Operand)(ho:o.op=.call { callee:=.builtin .append,args:=#[s,x],argTypes:=#[25,25] })
  (B k:Nat) (v:Value) (Y U D:Nat→Nat→SL) (m:ModV) (y uu dd:Nat→SL) (g c:Nat) (hs:a.eval s=v) (hx:a.eval x=.slice (some ⟨g,0,none⟩) 1 c) (hT:TL B w v k Y U D m) (hc:Blk 65 w g ((List.range 9).map fun r=>(y r).v).toArray)
  (hy:TY B w y uu dd (m.f k) (m.un k) (m.dn k) (m.u k) (m.d k)) (hl:(k+1)*216≤140737488355328) (hB:B≤w.heap.size)
  (h:∀ v' w',Below B w w'→TL B w' v' (k+1) (upd Y k y) (upd U k uu) (upd D k dd) m→wpList Tryz.prog ops Q rest (a.put o.dst v') w'):wpList Tryz.prog ops Q (o :: rest) a w:=by
 obtain⟨i0,hi,hz0,hz1,hz2⟩:=i65'
 refine wpList_plain hgd fun K hK=>?_
 refine wp_append_own w s x 25 ho B 65 i0 _ 9 216 Tryz.underlying25 hi hz0 hz1 hz2 rfl (by decide) v k _ hs hT.own ⟨g,0,none⟩ 1 c ((List.range 9).map fun r=>(y r).v) hx (by simp) (fun j u hj=>by
  have e:(⟨g,0,none⟩:Addr).add j=⟨g,j,none⟩:=by by_cases h:j=0<;>simp[Addr.add,h]
  rw[e]
  exact hc.cell j (by simpa using hj)) (fun u hu=>by obtain⟨r,_,rfl⟩:=List.mem_map.1 hu;rfl) (by unfold maxLen;omega) hl hB fun v' w' own' hg _=>hK _ _ (h v' w' ?_ ?_)
 ·exact (Below.refl B w).grown hg hB fun g h=>(hT.own.lt g h).1
 ·have k46:Keeps 73 w w':=Keeps.of_own hg hT.own (by decide)
  have k26:Keeps 24 w w':=Keeps.of_own hg hT.own (by decide)
  refine⟨?_,fun j hj=>?_⟩
  ·rw[cells9_succ,upd_same,cells9_congr (Y':=Y) (fun j hj r _=>by rw[upd_other Y k y (by omega)])]
   exact own'
  ·by_cases e:j=k
   ·subst e
    rw[upd_same,upd_same,upd_same]
    exact hy.step k46 k26
   ·rw[upd_other Y k y e,upd_other U k uu e,upd_other D k dd e]
    exact (hT.lay j (by omega)).step k46 k26
theorem arr9 {cs:Array Value}{F:Nat→Value}(h:cs.size=9)(hc:∀ f,f<9→cs[f]? = some (F f)):cs=#[F 0,F 1,F 2,F 3,F 4,F 5,F 6,F 7,F 8]:=by
 apply Array.ext
 ·simpa using h
 ·intro i h1 h2
  have e:=hc i (by omega)
  rw[Array.getElem?_eq_getElem h1] at e
  rw[Option.some.inj e]
  rcases (show i=0∨i=1∨i=2∨i=3∨i=4∨i=5∨i=6∨i=7∨i=8 by omega) with rfl|rfl|rfl|rfl|rfl|rfl|rfl|rfl|rfl<;>rfl
theorem TG.below {B B':Nat}{w w':World}{v:Value}{k:Nat}{R:Nat→SL}{Z:Nat→List Int}(h:TG B w v k R Z)(hb:Below w.heap.size w w'):TG B w' v k R Z:=h.step (Keeps.of_below hb) (Keeps.of_below hb)
theorem TL.below {B:Nat}{w w':World}{v:Value}{n:Nat}{Y U D:Nat→Nat→SL}{m:ModV}(h:TL B w v n Y U D m)(hb:Below w.heap.size w w'):TL B w' v n Y U D m:=⟨(Keeps.of_below hb).own h.own,fun i hi=>(h.lay i hi).step (Keeps.of_below hb) (Keeps.of_below hb)⟩
theorem TS.le {B B':Nat}{w:World}{s:SL}{zs:List Int}(h:TS B w s zs)(hb:B'≤B):TS B' w s zs:=⟨h.is,fun x hx=>⟨Nat.le_trans hb (h.blk x hx).1,(h.blk x hx).2⟩⟩
theorem TG.le {B B':Nat}{w:World}{v:Value}{k:Nat}{R:Nat→SL}{Z:Nat→List Int}(h:TG B w v k R Z)(hb:B'≤B):TG B' w v k R Z:=by
 refine⟨⟨h.own.1,?_⟩,fun j hj=>(h.row j hj).le hb⟩
 rcases h.own.2 with h2|⟨g,cap,cur,hv,hg,r⟩
 ·exact .inl h2
 ·exact .inr ⟨g,cap,cur,hv,by omega,r⟩
theorem TL.le {B B':Nat}{w:World}{v:Value}{n:Nat}{Y U D:Nat→Nat→SL}{m:ModV}(h:TL B w v n Y U D m)(hb:B'≤B):TL B' w v n Y U D m:=by
 refine⟨⟨h.own.1,?_⟩,fun i hi=>⟨fun j hj=>((h.lay i hi).f j hj).le hb,(h.lay i hi).u.le hb,(h.lay i hi).d.le hb⟩⟩
 rcases h.own.2 with h2|⟨g,cap,cur,hv,hg,r⟩
 ·exact .inl h2
 ·exact .inr ⟨g,cap,cur,hv,by omega,r⟩
theorem Blk.only {t:TypeId}{w w':World}{b g:Nat}{cs:Array Value}(q:Blk t w b cs)(o:Only g w w')(h:b≠g):Blk t w' b cs:=(o.block b q.lt (fun k=>h (by simpa using k))).trans q
theorem Inv.none_' {N:Nat}{D:Nat→Option Nat}{a0:Act}{R:(Nat→Bool)→Act→World→Prop}{F:(Nat→Bool)→Nat→Value→World→Prop}{l:Nat→Bool}{a:Act}{w:World}(h:Inv N D a0 R F l a w){i:Nat}{w':World}(hD:D i=none)(hR:R (fun j=>l j || j==i) a w')(mono:∀ j d,j<N→D j=some d→l j=true→j≠i→F l j (a.tmps.getD d undef) w→F (fun j=>l j || j==i) j (a.tmps.getD d undef) w') :
  Inv N D a0 R F (fun j=>l j || j==i) a w':=by
 refine⟨h.size,h.defers,h.kept,hR,fun j d' hj hDj hl=>?_⟩
 have e:j≠i:=fun e=>by rw[e,hD] at hDj;cases hDj
 have hl':l j=true:=by simpa [e] using hl
 exact mono j d' hj hDj hl' e (h.val j d' hj hDj hl')
structure AdV where
 ln:Nat
 f:Nat→Nat→List Int
structure AdAt (w:World) (L:SL) (Y:Nat→Nat→SL) (m:AdV):Prop where
 len:L.n=m.ln
 some_:0<m.ln→∃ x,L.a=some x
 nil:L.a=none→L.c=0
 cap:L.n≤L.c
 cell:∀ x,L.a=some x→∀ i,i<m.ln→∀ j,j<4→w.cell? ((x.add (i*4)).add j)=some (Y i j).v
 lay:∀ i,i<m.ln→∀ j,j<4→IsS w (Y i j) (m.f i j)
theorem AdAt.below {w w':World}{L:SL}{Y:Nat→Nat→SL}{m:AdV}(h:AdAt w L Y m)(hb:Below w.heap.size w w'):AdAt w' L Y m :=
 ⟨h.len,h.some_,h.nil,h.cap,fun x hx i hi j hj=>(hb.cell (World.block_lt_of_cell? w _ (h.cell x hx i hi j hj))).trans (h.cell x hx i hi j hj),fun i hi j hj=>(h.lay i hi j hj).below hb⟩
def NewA (base:Nat)(w:World)(L:SL)(Y:Nat→Nat→SL)(m:AdV):Prop:=∀ w',From base w w'→AdAt w' L Y m
theorem NewA.from_ {base:Nat}{w w':World}{L:SL}{Y:Nat→Nat→SL}{m:AdV}(h:NewA base w L Y m)(hf:From base w w'):NewA base w' L Y m:=fun w'' hc=>h w'' (hf.trans hc)
theorem NewA.only {base q:Nat}{w w':World}{L:SL}{Y:Nat→Nat→SL}{m:AdV}(h:NewA base w L Y m)(o:Only q w w')(hq:q<base):NewA base w' L Y m:=h.from_ (From.of_only o hq)
theorem NewA.le {base base':Nat}{w:World}{L:SL}{Y:Nat→Nat→SL}{m:AdV}(h:NewA base w L Y m)(hb:base'≤base):NewA base' w L Y m :=
 fun w'' hc=>h w'' fun p v hp hle=>hc p v hp (Nat.le_trans hb hle)
def cells4 (Y:Nat→Nat→SL)(n:Nat):List Value:=(List.range n).flatMap fun i=>(List.range 4).map fun r=>(Y i r).v
theorem cells4_succ (Y:Nat→Nat→SL)(n:Nat):cells4 Y (n+1)=cells4 Y n++(List.range 4).map fun r=>(Y n r).v:=by simp[cells4,List.range_succ]
theorem cells4_len (Y:Nat→Nat→SL)(n:Nat):(cells4 Y n).length=n*4:=by
 induction n with
 | zero=>rfl
 | succ n ih=>rw[cells4_succ,List.length_append,ih];simp;omega
theorem cells4_at (Y:Nat→Nat→SL)(n i r:Nat)(hi:i<n)(hr:r<4):(cells4 Y n)[i*4+r]? = some (Y i r).v:=by
 induction n with
 | zero=>omega
 | succ n ih =>
  rw[cells4_succ]
  have hl:=cells4_len Y n
  by_cases e:i=n
  ·subst e
   rw[List.getElem?_append_right (by omega),hl,show i*4+r-i*4=r by omega]
   simp[hr]
  ·rw[List.getElem?_append_left (by omega)]
   exact ih (by omega)
theorem cells4_congr {Y Y':Nat→Nat→SL}{n:Nat}(h:∀ i,i<n→∀ r,r<4→Y i r=Y' i r):cells4 Y n=cells4 Y' n:=by
 induction n with
 | zero=>rfl
 | succ n ih =>
  rw[cells4_succ,cells4_succ,ih fun i hi=>h i (by omega)]
  congr 1
  exact List.map_congr_left fun r hr=>by rw[h n (by omega) r (List.mem_range.1 hr)]
structure TA (B:Nat) (w:World) (v:Value) (n:Nat) (Y:Nat→Nat→SL) (f:Nat→Nat→List Int):Prop where
 own:w.ownsRow B 61 4 v n (cells4 Y n)
 lay:∀ i,i<n→∀ j,j<4→TS B w (Y i j) (f i j)
theorem TA.nil (B:Nat)(w:World)(Y:Nat→Nat→SL)(f:Nat→Nat→List Int):TA B w (.slice none 0 0) 0 Y f:=⟨World.ownsRow_nil _ _ _ _,fun j hj=>by omega⟩
theorem TA.below {B:Nat}{w w':World}{v:Value}{n:Nat}{Y:Nat→Nat→SL}{f:Nat→Nat→List Int}(h:TA B w v n Y f)(hb:Below w.heap.size w w'):TA B w' v n Y f:=⟨(Keeps.of_below hb).own h.own,fun i hi j hj=>(h.lay i hi j hj).step (Keeps.of_below hb)⟩
theorem TA.new {B:Nat}{w:World}{v:Value}{Y:Nat→Nat→SL}{m:AdV}(h:TA B w v m.ln Y m.f):∃ L:SL,v=L.v∧NewA B w L Y m:=by
 rcases h.own.2 with⟨e,e'⟩|⟨g,cap,cur,e,hg,hh,hcap,hm,_⟩
 ·exact⟨⟨none,0,0⟩,e,fun w' hf=>⟨e'.symm,(fun h=>by omega),fun _=>rfl,Nat.le_refl _,(fun x hx=>by cases hx),fun i hi j hj=>(h.lay i hi j hj).new w' hf⟩⟩
 ·refine⟨⟨some ⟨g,0,none⟩,m.ln,cap⟩,e,fun w' hf=>⟨rfl,fun _=>⟨_,rfl⟩,(fun h=>by cases h),hcap,fun x hx i hi j hj=>?_,fun i hi j hj=>(h.lay i hi j hj).new w' hf⟩⟩
  obtain rfl:=Option.some.inj hx
  have ho:=h.own
  rw[e] at ho
  have c:=ho.cells (g:=g) rfl (i*4+j) (Y i j).v (cells4_at Y m.ln i j hi hj)
  rw[Addr.add_add]
  refine hf _ _ c ?_
  have e2:((⟨g,0,none⟩:Addr).add (i*4+j)).block=g:=by unfold Addr.add;split<;>rfl
  omega
theorem info61:(Tryz.prog.info? 61).map (fun i=>(i.zero,i.size,i.bytes))=some (some (.agg #[nilS,nilS,nilS,nilS]),4,96):=by kernel_rfl
theorem i61':∃ i,Tryz.prog.info? 61=some i∧i.zero=some (.agg #[nilS,nilS,nilS,nilS])∧i.size=4∧i.bytes=96:=by
 have:=info61
 cases h:Tryz.prog.info? 61 with
 | none=>rw[h] at this;cases this
 | some i=>rw[h] at this;simp at this;exact⟨i,rfl,this.1,this.2.1,this.2.2⟩
theorem at_four {w:World}{x:Addr}{i:Nat}{y:Nat→SL}(h:∀ j,j<4→w.cell? ((x.add (i*4)).add j)=some (y j).v) :
  ∃ P,x.add (i*4)=P∧w.cell? P=some (.slice (y 0).a (y 0).n (y 0).c)∧w.cell? ⟨P.block,P.off+1,none⟩=some (.slice (y 1).a (y 1).n (y 1).c)∧w.cell? ⟨P.block,P.off+2,none⟩=some (.slice (y 2).a (y 2).n (y 2).c) ∧
   w.cell? ⟨P.block,P.off+3,none⟩=some (.slice (y 3).a (y 3).n (y 3).c) :=
 ⟨_,rfl,h 0 (by omega),h 1 (by omega),h 2 (by omega),h 3 (by omega)⟩
def okA (R S:Int)(d h l v u x t n:Int):Bool:=okB d h l v u x t n && (decide (1≤R) && (decide (R≤4) && (decide (0≤S) && decide (S≤8))))
def lensA (R d:Int)(m:AdV):Bool:=(List.range m.ln).all fun i=>(List.range 4).all fun j=>decide (((m.f i j).length:Int)=R*d)
theorem lensA_iff {R d:Int}{m:AdV}:lensA R d m=true↔∀ i,i<m.ln→∀ j,j<4→((m.f i j).length:Int)=R*d:=by
 unfold lensA
 simp only[List.all_eq_true,List.mem_range,decide_eq_true_eq]
def checkA (R S d h l v u x t n:Int)(m:AdV):Int:=if okA R S d h l v u x t n=true then (if (m.ln:Int)=l∧lensA R d m=true then 0 else 21) else 20
section
open Go.Sort hiding Below
def four (a b c d:SL)(r:Nat):SL:=match r with|0=>a|1=>b|2=>c|_=>d
theorem run_push (w : World) (ty : TypeId) (B k : Nat) (v : Value) (Y : Nat → Nat → SL) (f : Nat → Nat → List Int) (y : Nat → SL) (g c : Nat) (hT : TA B w v k Y f) (hc : Blk 61 w g #[(y 0).v, (y 1).v, (y 2).v, (y 3).v]) (hy : ∀ j, j < 4 → TS B w (y j) (f k j)) (hl : (k + 1) * 96 ≤ 140737488355328) (hB : B ≤ w.heap.size) :
    ∃ v' w', (Builtin.append_ #[28, 28] ty #[v, .slice (some ⟨g, 0, none⟩) 1 c]).run Tryz.prog w = .ok v' w' ∧ Below B w w' ∧ Keeps 30 w w' ∧ Keeps 113 w w' ∧ TA B w' v' (k + 1) (upd Y k y) f := by
  obtain ⟨i0, hi, hz0, hz1, hz2⟩ := i61'
  obtain ⟨v', w', hr, own', hg, _, _⟩ := run_append_own_at (P := Tryz.prog) (w := w) B 28 ty 61 i0 _ 4 96 Tryz.underlying28 hi hz0 hz1 hz2 rfl (by decide) v k _ hT.own ⟨g, 0, none⟩ 1 c ((List.range 4).map fun r => (y r).v) (by simp) (fun j u hj => by
    have e : (⟨g, 0, none⟩ : Addr).add j = ⟨g, j, none⟩ := by by_cases h : j = 0 <;> simp [Addr.add, h]
    rw [e]
    exact hc.cell j (by have hj' : [(y 0).v, (y 1).v, (y 2).v, (y 3).v][j]? = some u := hj
                        simpa using hj')) (fun u hu => by obtain ⟨r, _, rfl⟩ := List.mem_map.1 hu; rfl) (by unfold maxLen; omega) hl hB
  have k62 : Keeps 73 w w' := Keeps.of_own hg hT.own (by decide)
  refine ⟨v', w', hr, (Below.refl B w).grown hg hB fun g h => (hT.own.lt g h).1, Keeps.of_own hg hT.own (by decide), Keeps.of_own hg hT.own (by decide), ?_, fun i hi j hj => ?_⟩
  · rw [cells4_succ, upd_same, cells4_congr (Y' := Y) (fun i hi r _ => by rw [upd_other Y k y (by omega)])]
    exact own'
  · by_cases e : i = k
    · subst e
      rw [upd_same]
      exact (hy j hj).step k62
    · rw [upd_other Y k y e]
      exact (hT.lay i (by omega) j hj).step k62
theorem Closed.dep {ops:Array Oper}{l:Nat→Bool}(h:Closed ops l){i:Nat}{d:Option Tmp}{op:Op}{deps:List Nat}(ho:OpAt ops i d op deps)(hi:l i=true):∀ q∈deps,l q=true:=by
 obtain⟨o,e1,_,_,_,e5⟩:=ho
 exact dPo e5 fun e he hb=>h i o e1 hi e he hb
theorem run_build52 (w:World)(s0 s1 s2 s3:SL):(Instr.build 61 #[(0,s0.v),(1,s1.v),(2,s2.v),(3,s3.v)]).run Tryz.prog w=.ok (.agg #[s0.v,s1.v,s2.v,s3.v]) w:=by
 unfold SL.v
 go_simp
theorem run_build22 (w:World)(s0 s1 s2 s3:SL):(Instr.buildSlice 28 1 #[(0,.agg #[s0.v,s1.v,s2.v,s3.v])]).run Tryz.prog w=.ok (.slice (some ⟨w.heap.size,0,none⟩) 1 1) (w.alloc (.cells #[s0.v,s1.v,s2.v,s3.v] 61)):=by
 unfold SL.v
 go_simp
end
def P0 (l:Nat)(D VD:Nat)(m:ModV):Prop:=m.ln=l∧m.e.length=VD∧m.nm.length=D∧m.o.length=VD
def Ly (D DD XD ne:Nat)(m:ModV)(i:Nat):Prop:=(∀ r,r<7→(m.f i r).length=preC D DD XD r)∧m.un i=ne∧m.dn i=ne
def Nt (UD:Nat)(m:ModV)(i j:Nat):Prop:=(m.u i j).length=UD∧(m.d i j).length=UD
def AllR (l D DD XD UD VD ne:Nat)(m:ModV):Prop:=P0 l D VD m∧∀ i,i<m.ln→Ly D DD XD ne m i∧∀ j,j<ne→Nt UD m i j
theorem chk_iff {d h l v u x t n:Int}(ok:okB d h l v u x t n=true)(m:ModV):(AllR l.toNat d.toNat (d*d).toNat (x*d).toNat (u*d).toNat (v*d).toNat (netsN x) m→checkB d h l v u x t n m=0)∧(¬AllR l.toNat d.toNat (d*d).toNat (x*d).toNat (u*d).toNat (v*d).toNat (netsN x) m→checkB d h l v u x t n m=21):=by
 have dm:=dims_of ok
 have to0:AllR l.toNat d.toNat (d*d).toNat (x*d).toNat (u*d).toNat (v*d).toNat (netsN x) m→checkB d h l v u x t n m=0:=fun ⟨⟨h1,h2,h3,h4⟩,hall⟩=>by
  have fr:framedB l x m=true:=decide_eq_true ⟨by rw[h1];exact dm.el.symm,fun i hi=>by
   obtain⟨⟨_,u1,u2⟩,_⟩:=hall i hi
   rw[u1,u2]
   exact⟨dm.en.symm,dm.en.symm⟩⟩
  unfold checkB
  rw[ok,fr]
  show lensZ _ _ _=0
  refine lens_ok _ _ _ fun k hk=>?_
  unfold allT at hk
  unfold cntOf
  rcases plan_cases l.toNat (netsN x) k hk with rfl|⟨i,r,hi,hr,rfl⟩|⟨i,j,hi,hj,rfl|rfl⟩|rfl|rfl
  ·exact h2
  ·rw[planC_list i r hi hr,seqOf_list m _ i r (by omega) hr]
   exact (hall i (by omega)).1.1 r hr
  ·rw[planC_up i j hi hj,seqOf_up m _ i j (by omega) hj]
   exact ((hall i (by omega)).2 j hj).1
  ·rw[planC_down i j hi hj,seqOf_down m _ i j (by omega) hj]
   exact ((hall i (by omega)).2 j hj).2
  ·rw[planC_norm]
   rw[←h1,seqOf_norm]
   exact h3
  ·rw[planC_out]
   rw[←h1,seqOf_out]
   exact h4
 refine⟨to0,fun hn=>?_⟩
 have z21:∀ (S:Nat→List Int) (cnt:Nat→Nat) T,lensZ S cnt T=0∨lensZ S cnt T=21:=fun S cnt T=>by
  induction T with
  | zero=>exact .inl rfl
  | succ T ih =>
   show (if _ then _ else _)=_∨(if _ then _ else _)=_
   split
   ·exact ih
   ·exact .inr rfl
 have c:checkB d h l v u x t n m=0∨checkB d h l v u x t n m=21:=by
  unfold checkB
  rw[ok]
  show (if framedB l x m=true then _ else _)=_∨(if framedB l x m=true then _ else _)=_
  split
  ·exact z21 _ _ _
  ·exact .inr rfl
 rcases c with c|c
 ·exfalso
  apply hn
  obtain⟨_,hln,hun,hlen⟩:=checked c
  unfold cntOf allT at hlen
  have ip:∀ i r,i<l.toNat→r<pl (netsN x)→1+i*pl (netsN x)+r<1+l.toNat*pl (netsN x)+2:=fun i r hi hr=>by
   have:(i+1)*pl (netsN x)≤l.toNat*pl (netsN x):=Nat.mul_le_mul_right _ (by omega)
   rw[Nat.add_mul] at this
   omega
  refine⟨⟨hln,hlen 0 (by omega),?_,?_⟩,fun i hi=>⟨⟨fun r hr=>?_,hun i hi⟩,fun j hj=>⟨?_,?_⟩⟩⟩
  ·have:=hlen (1+l.toNat*pl (netsN x)) (by omega)
   rwa [planC_norm,←hln,seqOf_norm] at this
  ·have:=hlen (1+l.toNat*pl (netsN x)+1) (by omega)
   rwa [planC_out,←hln,seqOf_out] at this
  ·have:=hlen _ (ip i r (by omega) (by unfold pl;omega))
   rwa [planC_list i r (by omega) hr,seqOf_list m _ i r hi hr] at this
  ·have q:=ip i (7+2*j) (by omega) (by unfold pl;omega)
   have:=hlen (1+i*pl (netsN x)+7+2*j) (by omega)
   rwa [planC_up i j (by omega) hj,seqOf_up m _ i j hi hj] at this
  ·have q:=ip i (7+2*j+1) (by omega) (by unfold pl;omega)
   have:=hlen (1+i*pl (netsN x)+7+2*j+1) (by omega)
   rwa [planC_down i j (by omega) hj,seqOf_down m _ i j hi hj] at this
 ·exact c
theorem refCheck_no (d h l v u x t n:Int)(E L N O:SL)(ok:okB d h l v u x t n=false)(w:World) :
  Calls Tryz.prog 50 #[.agg #[.int .i64 d,.int .i64 h,.int .i64 l,.int .i64 v,.int .i64 u,.int .i64 x,.int .i64 t,.int .i64 n,.slice E.a E.n E.c,.slice L.a L.n L.c,.slice N.a N.n N.c,.slice O.a O.n O.c]] w fun e w'=>e=.returned (.int .i64 20)∧Below w.heap.size w w':=by
 have k10:=refConfig_call d h l v u x t n
 simp only[ok] at k10
 clear ok
 have hb:=bNw (bNw (Below.refl w.heap.size w) (.cells #[.int .i64 d,.int .i64 h,.int .i64 l,.int .i64 v,.int .i64 u,.int .i64 x,.int .i64 t,.int .i64 n,.slice E.a E.n E.c,.slice L.a L.n L.c,.slice N.a N.n N.c,.slice O.a O.n O.c] 27)) (.cells #[.int .i64 d,.int .i64 h,.int .i64 l,.int .i64 v,.int .i64 u,.int .i64 x,.int .i64 t,.int .i64 n] 23)
 have qb:=Blk.new 27 w #[.int .i64 d,.int .i64 h,.int .i64 l,.int .i64 v,.int .i64 u,.int .i64 x,.int .i64 t,.int .i64 n,.slice E.a E.n E.c,.slice L.a L.n L.c,.slice N.a N.n N.c,.slice O.a O.n O.c]
 obtain⟨a0,a1,a2,a3,a4,a5,a6,a7,a8,a9,a10,a11⟩:=qb.c12
 go_enter Tryz.func50,Tryz.ntmps50
 go_wp2_with (first
  | (go_at_call 36;refine (k10 _).mono ?_;rintro e W1 ⟨rfl,h1⟩;replace hb:=bTn hb h1;clear h1))
 go_ret
 exact⟨rfl,hb⟩
theorem inRange_walk (B:Bool)(R S d h l v u x t n:Int)(w:World)
  (k36:∀ w,Calls Tryz.prog 35 #[.agg #[.int .i64 d,.int .i64 h,.int .i64 l,.int .i64 v,.int .i64 u,.int .i64 x,.int .i64 t,.int .i64 n]] w fun e w'=>e=.returned (.bool B)∧Below w.heap.size w w') (V:Bool) (hV:(B && (decide (1≤R) && (decide (R≤4) && (decide (0≤S) && decide (S≤8)))))=V) :
  Calls Tryz.prog 90 #[.int .i64 R,.int .i64 S,.agg #[.int .i64 d,.int .i64 h,.int .i64 l,.int .i64 v,.int .i64 u,.int .i64 x,.int .i64 t,.int .i64 n]] w fun e w'=>e=.returned (.bool V)∧Below w.heap.size w w':=by
 have hb:=bNw (Below.refl w.heap.size w) (.cells #[.int .i64 d,.int .i64 h,.int .i64 l,.int .i64 v,.int .i64 u,.int .i64 x,.int .i64 t,.int .i64 n] 23)
 subst hV
 cases B with
 | false =>
  go_enter Tryz.func90,Tryz.ntmps90
  go_wp2_with (first|(go_at_call 35;refine (k36 _).mono ?_;rintro e W1 ⟨rfl,h1⟩;replace hb:=bTn hb h1;clear h1))
  go_ret
  exact⟨rfl,hb⟩
 | true =>
  by_cases r1:1≤R
  ·by_cases r2:R≤4
   ·by_cases r3:0≤S
    ·simp only[r1,r2,r3,decide_true,Bool.true_and]
     go_enter Tryz.func90,Tryz.ntmps90
     go_wp2_with (first|(go_at_call 35;refine (k36 _).mono ?_;rintro e W1 ⟨rfl,h1⟩;replace hb:=bTn hb h1;clear h1))
     go_ret
     exact⟨rfl,hb⟩
    ·simp only[r1,r2,r3,decide_true,decide_false,Bool.and_false,Bool.false_and]
     go_enter Tryz.func90,Tryz.ntmps90
     go_wp2_with (first|(go_at_call 35;refine (k36 _).mono ?_;rintro e W1 ⟨rfl,h1⟩;replace hb:=bTn hb h1;clear h1))
     go_ret
     exact⟨rfl,hb⟩
   ·simp only[r1,r2,decide_true,decide_false,Bool.and_false,Bool.false_and]
    go_enter Tryz.func90,Tryz.ntmps90
    go_wp2_with (first|(go_at_call 35;refine (k36 _).mono ?_;rintro e W1 ⟨rfl,h1⟩;replace hb:=bTn hb h1;clear h1))
    go_ret
    exact⟨rfl,hb⟩
  ·simp only[r1,decide_false,Bool.and_false,Bool.false_and]
   go_enter Tryz.func90,Tryz.ntmps90
   go_wp2_with (first|(go_at_call 35;refine (k36 _).mono ?_;rintro e W1 ⟨rfl,h1⟩;replace hb:=bTn hb h1;clear h1))
   go_ret
   exact⟨rfl,hb⟩
theorem inRange_call (R S d h l v u x t n:Int)(w:World) :
  Calls Tryz.prog 90 #[.int .i64 R,.int .i64 S,.agg #[.int .i64 d,.int .i64 h,.int .i64 l,.int .i64 v,.int .i64 u,.int .i64 x,.int .i64 t,.int .i64 n]] w fun e w'=>e=.returned (.bool (okA R S d h l v u x t n))∧Below w.heap.size w w' :=
 inRange_walk (okB d h l v u x t n) R S d h l v u x t n w (config_call d h l v u x t n) _ rfl
theorem refRanges_walk (B:Bool)(R S d h l v u x t n:Int)(w:World)
  (k41:∀ w,Calls Tryz.prog 36 #[.agg #[.int .i64 d,.int .i64 h,.int .i64 l,.int .i64 v,.int .i64 u,.int .i64 x,.int .i64 t,.int .i64 n]] w fun e w'=>e=.returned (.bool B)∧Below w.heap.size w w') (V:Bool) (hV:(B && (decide (1≤R) && (decide (R≤4) && (decide (0≤S) && decide (S≤8)))))=V) :
  Calls Tryz.prog 83 #[.int .i64 R,.int .i64 S,.agg #[.int .i64 d,.int .i64 h,.int .i64 l,.int .i64 v,.int .i64 u,.int .i64 x,.int .i64 t,.int .i64 n]] w fun e w'=>e=.returned (.bool V)∧Below w.heap.size w w':=by
 have hb:=bNw (Below.refl w.heap.size w) (.cells #[.int .i64 d,.int .i64 h,.int .i64 l,.int .i64 v,.int .i64 u,.int .i64 x,.int .i64 t,.int .i64 n] 23)
 subst hV
 cases B with
 | false =>
  go_enter Tryz.func83,Tryz.ntmps83
  go_wp2_with (first|(go_at_call 36;refine (k41 _).mono ?_;rintro e W1 ⟨rfl,h1⟩;replace hb:=bTn hb h1;clear h1))
  go_ret
  exact⟨rfl,hb⟩
 | true =>
  by_cases r1:1≤R
  ·by_cases r2:R≤4
   ·by_cases r3:0≤S
    ·simp only[r1,r2,r3,decide_true,Bool.true_and]
     go_enter Tryz.func83,Tryz.ntmps83
     go_wp2_with (first|(go_at_call 36;refine (k41 _).mono ?_;rintro e W1 ⟨rfl,h1⟩;replace hb:=bTn hb h1;clear h1))
     go_ret
     exact⟨rfl,hb⟩
    ·simp only[r1,r2,r3,decide_true,decide_false,Bool.and_false,Bool.false_and]
     go_enter Tryz.func83,Tryz.ntmps83
     go_wp2_with (first|(go_at_call 36;refine (k41 _).mono ?_;rintro e W1 ⟨rfl,h1⟩;replace hb:=bTn hb h1;clear h1))
     go_ret
     exact⟨rfl,hb⟩
   ·simp only[r1,r2,decide_true,decide_false,Bool.and_false,Bool.false_and]
    go_enter Tryz.func83,Tryz.ntmps83
    go_wp2_with (first|(go_at_call 36;refine (k41 _).mono ?_;rintro e W1 ⟨rfl,h1⟩;replace hb:=bTn hb h1;clear h1))
    go_ret
    exact⟨rfl,hb⟩
  ·simp only[r1,decide_false,Bool.and_false,Bool.false_and]
   go_enter Tryz.func83,Tryz.ntmps83
   go_wp2_with (first|(go_at_call 36;refine (k41 _).mono ?_;rintro e W1 ⟨rfl,h1⟩;replace hb:=bTn hb h1;clear h1))
   go_ret
   exact⟨rfl,hb⟩
theorem refRanges_call (R S d h l v u x t n:Int)(w:World) :
  Calls Tryz.prog 83 #[.int .i64 R,.int .i64 S,.agg #[.int .i64 d,.int .i64 h,.int .i64 l,.int .i64 v,.int .i64 u,.int .i64 x,.int .i64 t,.int .i64 n]] w fun e w'=>e=.returned (.bool (okA R S d h l v u x t n))∧Below w.heap.size w w' :=
 refRanges_walk (okB d h l v u x t n) R S d h l v u x t n w (refConfig_call d h l v u x t n) _ rfl
structure RightA (R S d l:Int):Prop where
 r0:1≤R
 r1:R≤4
 s0:0≤S
 s1:S≤8
 d0:2≤d
 d1:d≤8
 l0:1≤l
 l1:l≤2
theorem listSize_call (R d h l v u x t n:Int)(N:Int)(hN:R*d=N)(h0:-9223372036854775808≤N)(h1:N≤9223372036854775807)(w:World) :
  Calls Tryz.prog 92 #[.int .i64 R,.agg #[.int .i64 d,.int .i64 h,.int .i64 l,.int .i64 v,.int .i64 u,.int .i64 x,.int .i64 t,.int .i64 n]] w fun e w'=>e=.returned (.int .i64 N)∧Below w.heap.size w w':=by
 have hb:=bNw (Below.refl w.heap.size w) (.cells #[.int .i64 d,.int .i64 h,.int .i64 l,.int .i64 v,.int .i64 u,.int .i64 x,.int .i64 t,.int .i64 n] 23)
 go_enter Tryz.func92,Tryz.ntmps92
 go_wp2
 go_ret
 exact⟨rfl,hb⟩
theorem info120:(Tryz.prog.info? 120).map (fun i=>(i.zero,i.size,i.bytes))=some (some (.pointer none),1,8):=by kernel_rfl
theorem index_all (p0 p1 p2 p3:Value):(∀ w:World,(Instr.index 125 (.agg #[p0,p1,p2,p3]) (.int .i64 0)).run Tryz.prog w=.ok p0 w)∧(∀ w:World,(Instr.index 125 (.agg #[p0,p1,p2,p3]) (.int .i64 1)).run Tryz.prog w=.ok p1 w)∧(∀ w:World,(Instr.index 125 (.agg #[p0,p1,p2,p3]) (.int .i64 2)).run Tryz.prog w=.ok p2 w)∧(∀ w:World,(Instr.index 125 (.agg #[p0,p1,p2,p3]) (.int .i64 3)).run Tryz.prog w=.ok p3 w):=by
 obtain⟨i,hi,hzz⟩:=Option.map_eq_some_iff.1 info120
 simp only[Prod.mk.injEq] at hzz
 refine⟨?_,?_,?_,?_⟩<;>intro w<;>simp[Instr.index,run_underlying Tryz.underlying125,asIntOf,go_sem,typeInfo,sizeOf,hi,hzz.2.1]
theorem lists_call (P:Addr)(w:World):Calls Tryz.prog 91 #[.pointer (some P)] w fun e w'=>e=.returned (.agg #[.pointer (some P),.pointer (some ⟨P.block,P.off+1,none⟩),.pointer (some ⟨P.block,P.off+2,none⟩),.pointer (some ⟨P.block,P.off+3,none⟩)])∧Below w.heap.size w w':=by
 go_enter Tryz.func91,Tryz.ntmps91
 go_wp2
 go_region_held3 (fun W=>True) (trivial) (first|fail)
 go_wp2
 refine bodyPost_ret (v:=.agg #[.pointer (some P),.pointer (some ⟨P.block,P.off+1,none⟩),.pointer (some ⟨P.block,P.off+2,none⟩),.pointer (some ⟨P.block,P.off+3,none⟩)]) ?_ rfl ⟨rfl,bDr (bNw (Below.refl _ w) _) ⟨1,rfl⟩⟩
 simp[results,Tryz.results91,go_sem]
theorem run_load63 {w:World}{p:Addr}{a:Option Addr}{n c:Nat}(h:w.cell? p=some (.slice a n c)):(Instr.loadAt 63 (.pointer (some p))).run Tryz.prog w=.ok (.slice a n c) w:=by
 go_simp
end Go.Proofs.YthliomlmhfjhnaaGreat

/- Texts put together. -/
import Derived.Test.YthliomlmhfjhnaaGreatRows
import Derived.Test.YthliomlmhfjhnaaGreatZf33
import Derived.Test.YthliomlmhfjhnaaGreatZf34
namespace Go.Proofs.YthliomlmhfjhnaaGreat
set_option maxRecDepth 20000
set_option maxHeartbeats 16000000
open Go.ChangeShapes Go.WideShapes Go.ChangeAt Go.RowKit
set_option linter.unusedVariables false
set_option linter.unusedSimpArgs false
section
theorem refShape_bad (d h l v u x t n:Int)(ok:okB d h l v u x t n=false)(sa:Option Addr)(nW cW:Nat)(w:World) :
  Calls Tryz.prog 39 #[.agg #[.int .i64 d,.int .i64 h,.int .i64 l,.int .i64 v,.int .i64 u,.int .i64 x,.int .i64 t,.int .i64 n],.slice sa nW cW] w fun e w'=>e=.returned (.tuple #[.agg #[.int .i64 0,.int .i64 0,.int .i64 0,.int .i64 0,.int .i64 0,.int .i64 0,.int .i64 0,.int .i64 0,nilS,nilS,nilS,nilS],.int .i64 20])∧Below w.heap.size w w':=by
 have k10:=refConfig_call d h l v u x t n
 simp only[ok] at k10
 clear ok
 have hb:=bNw (bNw (Below.refl w.heap.size w) (.cells #[.int .i64 d,.int .i64 h,.int .i64 l,.int .i64 v,.int .i64 u,.int .i64 x,.int .i64 t,.int .i64 n] 23)) (.cells #[.int .i64 0,.int .i64 0,.int .i64 0,.int .i64 0,.int .i64 0,.int .i64 0,.int .i64 0,.int .i64 0,nilS,nilS,nilS,nilS] 27)
 have q0:Blk 23 ((w.alloc (.cells #[.int .i64 d,.int .i64 h,.int .i64 l,.int .i64 v,.int .i64 u,.int .i64 x,.int .i64 t,.int .i64 n] 23)).alloc (.cells #[.int .i64 0,.int .i64 0,.int .i64 0,.int .i64 0,.int .i64 0,.int .i64 0,.int .i64 0,.int .i64 0,nilS,nilS,nilS,nilS] 27)) w.heap.size #[.int .i64 d,.int .i64 h,.int .i64 l,.int .i64 v,.int .i64 u,.int .i64 x,.int .i64 t,.int .i64 n]:=(Blk.new 23 w _).kept (bNw (Below.refl _ _) _)
 have qr:Blk 27 ((w.alloc (.cells #[.int .i64 d,.int .i64 h,.int .i64 l,.int .i64 v,.int .i64 u,.int .i64 x,.int .i64 t,.int .i64 n] 23)).alloc (.cells #[.int .i64 0,.int .i64 0,.int .i64 0,.int .i64 0,.int .i64 0,.int .i64 0,.int .i64 0,.int .i64 0,nilS,nilS,nilS,nilS] 27)) (w.heap.size+1) #[.int .i64 0,.int .i64 0,.int .i64 0,.int .i64 0,.int .i64 0,.int .i64 0,.int .i64 0,.int .i64 0,nilS,nilS,nilS,nilS]:=Blk.new_at 27 (w.alloc _) _ _ (by simp)
 obtain⟨d0,d1,d2,d3,d4,d5,d6,d7⟩:=q0.cfg
 go_enter Tryz.func39,Tryz.ntmps39
 go_wp2_with (first
  | (go_at_call 36;refine (k10 _).mono ?_;rintro e W1 ⟨rfl,h1⟩;replace qr:=qr.kept h1;replace hb:=bTn hb h1;clear h1 k10 d0 d1 d2 d3 d4 d5 d6 d7;obtain⟨z0,z1,z2,z3,z4,z5,z6,z7,z8,z9,z10,z11⟩:=qr.c12;obtain⟨o0,o1,o2,o3,o4,o5,o6,o7,o8,o9,o10,o11⟩:=qr.o12))
 obtain⟨W9,eW9,q9',only9,hz9⟩:=set12 qr (.int .i64 0) (.int .i64 0) (.int .i64 0) (.int .i64 0) (.int .i64 0) (.int .i64 0) (.int .i64 0) (.int .i64 0) nilS nilS nilS nilS
 rw[eW9]
 refine bodyPost_ret (v:=.tuple #[.agg #[.int .i64 0,.int .i64 0,.int .i64 0,.int .i64 0,.int .i64 0,.int .i64 0,.int .i64 0,.int .i64 0,nilS,nilS,nilS,nilS],.int .i64 20]) ?_ rfl ⟨rfl,Only.below hb (by omega) hb.size only9⟩
 obtain⟨y0,y1,y2,y3,y4,y5,y6,y7,y8,y9,y10,y11⟩:=q9'.c12
 simp[results,Tryz.results39,go_sem,y0,y1,y2,y3,y4,y5,y6,y7,y8,y9,y10,y11]
theorem refShape_len (d h l v u x t n:Int)(ok:okB d h l v u x t n=true)(sa:Option Addr)(nW cW:Nat)(hlen:(nW:Int)≠szZ d l v u x)(w:World) :
  Calls Tryz.prog 39 #[.agg #[.int .i64 d,.int .i64 h,.int .i64 l,.int .i64 v,.int .i64 u,.int .i64 x,.int .i64 t,.int .i64 n],.slice sa nW cW] w fun e w'=>e=.returned (.tuple #[.agg #[.int .i64 0,.int .i64 0,.int .i64 0,.int .i64 0,.int .i64 0,.int .i64 0,.int .i64 0,.int .i64 0,nilS,nilS,nilS,nilS],.int .i64 21])∧Below w.heap.size w w':=by
 have k10:=refConfig_call d h l v u x t n
 have k12:=refSize_call d h l v u x t n
 simp only[ok] at k10
 have es:sizeB d h l v u x t n=szZ d l v u x:=by unfold sizeB;rw[ok];rfl
 simp only[es] at k12
 obtain⟨Z,eZ⟩:∃ Z,szZ d l v u x=Z:=⟨_,rfl⟩
 rw[eZ] at hlen
 simp only[eZ] at k12
 have hZ:((nW:Int)==Z)=false:=by simp[hlen]
 have hZ2:((nW:Int) != Z)=true:=by simp[hlen]
 clear ok es eZ
 have hb:=bNw (bNw (Below.refl w.heap.size w) (.cells #[.int .i64 d,.int .i64 h,.int .i64 l,.int .i64 v,.int .i64 u,.int .i64 x,.int .i64 t,.int .i64 n] 23)) (.cells #[.int .i64 0,.int .i64 0,.int .i64 0,.int .i64 0,.int .i64 0,.int .i64 0,.int .i64 0,.int .i64 0,nilS,nilS,nilS,nilS] 27)
 have q0:Blk 23 ((w.alloc (.cells #[.int .i64 d,.int .i64 h,.int .i64 l,.int .i64 v,.int .i64 u,.int .i64 x,.int .i64 t,.int .i64 n] 23)).alloc (.cells #[.int .i64 0,.int .i64 0,.int .i64 0,.int .i64 0,.int .i64 0,.int .i64 0,.int .i64 0,.int .i64 0,nilS,nilS,nilS,nilS] 27)) w.heap.size #[.int .i64 d,.int .i64 h,.int .i64 l,.int .i64 v,.int .i64 u,.int .i64 x,.int .i64 t,.int .i64 n]:=(Blk.new 23 w _).kept (bNw (Below.refl _ _) _)
 have qr:Blk 27 ((w.alloc (.cells #[.int .i64 d,.int .i64 h,.int .i64 l,.int .i64 v,.int .i64 u,.int .i64 x,.int .i64 t,.int .i64 n] 23)).alloc (.cells #[.int .i64 0,.int .i64 0,.int .i64 0,.int .i64 0,.int .i64 0,.int .i64 0,.int .i64 0,.int .i64 0,nilS,nilS,nilS,nilS] 27)) (w.heap.size+1) #[.int .i64 0,.int .i64 0,.int .i64 0,.int .i64 0,.int .i64 0,.int .i64 0,.int .i64 0,.int .i64 0,nilS,nilS,nilS,nilS]:=Blk.new_at 27 (w.alloc _) _ _ (by simp)
 obtain⟨d0,d1,d2,d3,d4,d5,d6,d7⟩:=q0.cfg
 go_enter Tryz.func39,Tryz.ntmps39
 go_wp2_with (first
  | (go_at_call 36;refine (k10 _).mono ?_;rintro e W1 ⟨rfl,h1⟩;replace q0:=q0.kept h1;replace qr:=qr.kept h1;replace hb:=bTn hb h1;clear h1 k10 d0 d1 d2 d3 d4 d5 d6 d7;obtain⟨d0,d1,d2,d3,d4,d5,d6,d7⟩:=q0.cfg)
  | (go_at_call 41;refine (k12 _).mono ?_;rintro e W2 ⟨rfl,h2⟩;replace qr:=qr.kept h2;replace hb:=bTn hb h2;clear h2 k12 d0 d1 d2 d3 d4 d5 d6 d7;obtain⟨z0,z1,z2,z3,z4,z5,z6,z7,z8,z9,z10,z11⟩:=qr.c12;obtain⟨o0,o1,o2,o3,o4,o5,o6,o7,o8,o9,o10,o11⟩:=qr.o12))
 obtain⟨W9,eW9,q9',only9,hz9⟩:=set12 qr (.int .i64 0) (.int .i64 0) (.int .i64 0) (.int .i64 0) (.int .i64 0) (.int .i64 0) (.int .i64 0) (.int .i64 0) nilS nilS nilS nilS
 rw[eW9]
 refine bodyPost_ret (v:=.tuple #[.agg #[.int .i64 0,.int .i64 0,.int .i64 0,.int .i64 0,.int .i64 0,.int .i64 0,.int .i64 0,.int .i64 0,nilS,nilS,nilS,nilS],.int .i64 21]) ?_ rfl ⟨rfl,Only.below hb (by omega) hb.size only9⟩
 obtain⟨y0,y1,y2,y3,y4,y5,y6,y7,y8,y9,y10,y11⟩:=q9'.c12
 simp[results,Tryz.results39,go_sem,y0,y1,y2,y3,y4,y5,y6,y7,y8,y9,y10,y11]
theorem refShape_good (d h l v u x t n:Int)(ok:okB d h l v u x t n=true)(xa:Addr)(nW cW:Nat)(ws:List Int)(w:World)(rd:Reads .i8 w (some xa) nW ws)(hc:nW≤cW)(hlen:(nW:Int)=szZ d l v u x) :
  Calls Tryz.prog 39 #[.agg #[.int .i64 d,.int .i64 h,.int .i64 l,.int .i64 v,.int .i64 u,.int .i64 x,.int .i64 t,.int .i64 n],.slice (some xa) nW cW] w fun e w'=>∃ E L N O:SL,∃ Y U D',e=.returned (.tuple #[.agg #[.int .i64 d,.int .i64 h,.int .i64 l,.int .i64 v,.int .i64 u,.int .i64 x,.int .i64 t,.int .i64 n,.slice E.a E.n E.c,.slice L.a L.n L.c,.slice N.a N.n N.c,.slice O.a O.n O.c],.int .i64 0])∧NewM w.heap.size w' E L N O Y U D' (shapeV d l v u x ws)∧Below w.heap.size w w':=by
 have dm:=dims_of ok
 have k10:=refConfig_call d h l v u x t n
 have k12:=refSize_call d h l v u x t n
 simp only[ok] at k10
 have es:sizeB d h l v u x t n=(nW:Int):=by unfold sizeB;rw[ok,hlen];rfl
 simp only[es] at k12
 have hfit:nW=offs (cntOf d l v u x) (allT l x):=by have:=dm.sz;omega
 have hxa:xa.block<w.heap.size:=by
  have c:=rd.cell xa rfl 0 (by have:=dm.sz0;omega)
  have:=World.block_lt_of_cell? _ _ c
  simpa [Addr.add] using this
 have hx:x=0∨2≤x:=by
  unfold okB expertsB at ok
  simp only[Bool.and_eq_true,decide_eq_true_eq] at ok
  omega
 rcases hx with hx|hx
 ·have n1:netsN x=1:=by unfold netsN;rw[hx];rfl
  have hf1:=hfit
  unfold cntOf allT at hf1
  rw[n1] at hf1
  have key:=refShape_few h v u x t n d.toNat (d*d).toNat (x*d).toNat (u*d).toNat (v*d).toNat l.toNat nW cW xa ws (by rw[←dm.ed];exact dm.e1) (by rw[←dm.ed];exact dm.e2) (by rw[←dm.ed];exact dm.e3) (by rw[←dm.ed];exact dm.e4) (by rw[←dm.ed,Int.mul_comm];exact dm.e4) (by omega)
   dm.b0 dm.b1 dm.b2 dm.b3 dm.b4 dm.l1 w (by rw[←dm.ed,←dm.el];exact k10) (by rw[←dm.ed,←dm.el];exact k12) rd hc (by have:=dm.sz1;omega) hf1.symm hxa
  rw[←dm.ed,←dm.el] at key
  unfold shapeV cntOf
  rw[n1]
  exact key
 ·have en:x=(netsN x:Int):=by have:=dm.en;omega
  have hf1:=hfit
  unfold cntOf allT at hf1
  have key:=refShape_many h v u t n d.toNat (d*d).toNat (x*d).toNat (u*d).toNat (v*d).toNat (netsN x) l.toNat nW cW xa ws (by rw[←dm.ed];exact dm.e1) (by rw[←dm.ed];exact dm.e2) (by rw[←dm.ed,←en];exact dm.e3) (by rw[←dm.ed];exact dm.e4) (by rw[←dm.ed,Int.mul_comm];exact dm.e4) (by omega) dm.n1
   dm.b0 dm.b1 dm.b2 dm.b3 dm.b4 dm.l1 w (by rw[←dm.ed,←dm.el,←en];exact k10) (by rw[←dm.ed,←dm.el,←en];exact k12) rd hc (by have:=dm.sz1;omega) hf1.symm hxa
  rw[←dm.ed,←dm.el,←en] at key
  exact key
end
section
def shG (d h l v u x t n:Int)(zs:List Int):Bool:=okB d h l v u x t n && decide ((zs.length:Int)=szZ d l v u x)
def shC (g:Bool)(z:Int):Int:=if g then z else 0
def shE (d h l v u x t n:Int)(zs:List Int):Int:=if okB d h l v u x t n then (if (zs.length:Int)=szZ d l v u x then 0 else 21) else 20
def shM (d h l v u x t n:Int)(zs:List Int):ModV:=if shG d h l v u x t n zs then shapeV d l v u x zs else noV
theorem refShape_any (d h l v u x t n:Int)(s:SL)(zs:List Int)(w:World)(hs:IsS w s zs) :
  Calls Tryz.prog 39 #[.agg #[.int .i64 d,.int .i64 h,.int .i64 l,.int .i64 v,.int .i64 u,.int .i64 x,.int .i64 t,.int .i64 n],.slice s.a s.n s.c] w fun e w'=>∃ E L N O:SL,∃ Y U D',e=.returned (.tuple #[.agg #[.int .i64 (shC (shG d h l v u x t n zs) d),.int .i64 (shC (shG d h l v u x t n zs) h),.int .i64 (shC (shG d h l v u x t n zs) l),.int .i64 (shC (shG d h l v u x t n zs) v),.int .i64 (shC (shG d h l v u x t n zs) u),.int .i64 (shC (shG d h l v u x t n zs) x),.int .i64 (shC (shG d h l v u x t n zs) t),.int .i64 (shC (shG d h l v u x t n zs) n),.slice E.a E.n E.c,.slice L.a L.n L.c,.slice N.a N.n N.c,.slice O.a O.n O.c],.int .i64 (shE d h l v u x t n zs)])∧NewM w.heap.size w' E L N O Y U D' (shM d h l v u x t n zs)∧Below w.heap.size w w':=by
 have hlen:=hs.reads.len
 cases ok:okB d h l v u x t n with
 | false =>
  have e1:(shG d h l v u x t n zs)=false:=by unfold shG;rw[ok];rfl
  have e2:shE d h l v u x t n zs=20:=by unfold shE;rw[ok];rfl
  have e3:shM d h l v u x t n zs=noV:=by unfold shM;rw[e1];rfl
  have e4:∀ z,shC (shG d h l v u x t n zs) z=0:=fun z=>by unfold shC;rw[e1];rfl
  simp only[e2,e3,e4]
  exact (refShape_bad d h l v u x t n ok s.a s.n s.c w).mono fun e w' hh=>⟨⟨none,0,0⟩,⟨none,0,0⟩,⟨none,0,0⟩,⟨none,0,0⟩,fun _ _=>SL.nought,fun _ _=>SL.nought,fun _ _=>SL.nought,hh.1,NewM.none_ _ _ _ _ _,hh.2⟩
 | true =>
  by_cases hl:(zs.length:Int)=szZ d l v u x
  ·have e1:(shG d h l v u x t n zs)=true:=by unfold shG;rw[ok];simp[hl]
   have e2:shE d h l v u x t n zs=0:=by unfold shE;rw[ok];simp[hl]
   have e3:shM d h l v u x t n zs=shapeV d l v u x zs:=by unfold shM;rw[e1];rfl
   have e4:∀ z,shC (shG d h l v u x t n zs) z=z:=fun z=>by unfold shC;rw[e1];rfl
   simp only[e2,e3,e4]
   have dm:=dims_of ok
   obtain⟨xa,hx⟩:=hs.reads.some_ (by have:=dm.sz;have:=dm.sz0;omega)
   have hr:=hs.reads
   have hc:=hs.cap
   rw[hx] at hr ⊢
   exact refShape_good d h l v u x t n ok xa s.n s.c zs w hr hc (by omega)
  ·have e1:(shG d h l v u x t n zs)=false:=by unfold shG;rw[ok];simp[hl]
   have e2:shE d h l v u x t n zs=21:=by unfold shE;rw[ok];simp[hl]
   have e3:shM d h l v u x t n zs=noV:=by unfold shM;rw[e1];rfl
   have e4:∀ z,shC (shG d h l v u x t n zs) z=0:=fun z=>by unfold shC;rw[e1];rfl
   simp only[e2,e3,e4]
   exact (refShape_len d h l v u x t n ok s.a s.n s.c (by omega) w).mono fun e w' hh=>⟨⟨none,0,0⟩,⟨none,0,0⟩,⟨none,0,0⟩,⟨none,0,0⟩,fun _ _=>SL.nought,fun _ _=>SL.nought,fun _ _=>SL.nought,hh.1,NewM.none_ _ _ _ _ _,hh.2⟩
end
end Go.Proofs.YthliomlmhfjhnaaGreat

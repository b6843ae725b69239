/- Texts put together. -/
import Derived.Test.YtbkjhfmehemgpaaGreatFb33
namespace Go.Proofs.YtbkjhfmehemgpaaGreat
set_option maxRecDepth 20000
set_option maxHeartbeats 16000000
open Go.ChangeShapes Go.WideShapes Go.ChangeAt Go.RowKit
set_option linter.unusedVariables false
set_option linter.unusedSimpArgs false
theorem wpList_layer2 {ops:Array Oper}{rest:List Oper}{o:Oper}{a:Act}{w:World}{Q:Exit→Act→World→Prop}(hgd:o.guard=none)(s x:Operand)(ho:o.op=.call { callee:=.builtin .append,args:=#[s,x],argTypes:=#[32,32] })
  (B k:Nat) (v:Value) (Y U D:Nat→Nat→SL) (m:ModV) (y uu dd:Nat→SL) (g c:Nat) (hs:a.eval s=v) (hx:a.eval x=.slice (some ⟨g,0,none⟩) 1 c) (hT:TL B w v k Y U D m) (hc:Blk 61 w g ((List.range 9).map fun r=>(y r).v).toArray)
  (hy:TY B w y uu dd (m.f k) (m.un k) (m.dn k) (m.u k) (m.d k)) (hl:(k+1)*216≤140737488355328) (hB:B≤w.heap.size)
  (h:∀ v' w',w.grownBy w' v.ownBlock→(∀ g,v.ownBlock=some g→B≤g)→Keeps 34 w w'→Keeps 118 w w'→TL B w' v' (k+1) (upd Y k y) (upd U k uu) (upd D k dd) m→wpList Tryz.prog ops Q rest (a.put o.dst v') w'):wpList Tryz.prog ops Q (o :: rest) a w:=by
 obtain⟨i0,hi,hz0,hz1,hz2⟩:=i61'
 refine wpList_plain hgd fun K hK=>?_
 refine wp_append_own w s x 32 ho B 61 i0 _ 9 216 Tryz.underlying32 hi hz0 hz1 hz2 rfl (by decide) v k _ hs hT.own ⟨g,0,none⟩ 1 c ((List.range 9).map fun r=>(y r).v) hx (by simp) (fun j u hj=>by
  have e:(⟨g,0,none⟩:Addr).add j=⟨g,j,none⟩:=by by_cases h:j=0<;>simp[Addr.add,h]
  rw[e]
  exact hc.cell j (by simpa using hj)) (fun u hu=>by obtain⟨r,_,rfl⟩:=List.mem_map.1 hu;rfl) (by unfold maxLen;omega) hl hB fun v' w' own' hg _=>hK _ _ (h v' w' hg (fun g hg=>(hT.own.lt g hg).1) (Keeps.of_own hg hT.own (by decide)) (Keeps.of_own hg hT.own (by decide)) ?_)
 have k46:Keeps 118 w w':=Keeps.of_own hg hT.own (by decide)
 have k26:Keeps 31 w w':=Keeps.of_own hg hT.own (by decide)
 refine⟨?_,fun j hj=>?_⟩
 ·rw[cells9_succ,upd_same,cells9_congr (Y':=Y) (fun j hj r _=>by rw[upd_other Y k y (by omega)])]
  exact own'
 ·by_cases e:j=k
  ·subst e
   rw[upd_same,upd_same,upd_same]
   exact hy.step k46 k26
  ·rw[upd_other Y k y e,upd_other U k uu e,upd_other D k dd e]
   exact (hT.lay j (by omega)).step k46 k26
theorem TL.slice {B:Nat}{w:World}{v:Value}{n:Nat}{Y U D:Nat→Nat→SL}{m:ModV}(h:TL B w v n Y U D m):∃ s:SL,v=.slice s.a s.n s.c:=by
 rcases h.own.2 with⟨e,_⟩|⟨g,cap,cur,e,_⟩
 ·exact⟨⟨none,0,0⟩,e⟩
 ·exact⟨⟨_,_,_⟩,e⟩
theorem TL.step {B:Nat}{w w':World}{v:Value}{n:Nat}{Y U D:Nat→Nat→SL}{m:ModV}(h:TL B w v n Y U D m)(k59:Keeps 61 w w')(k46:Keeps 118 w w')(k26:Keeps 31 w w'):TL B w' v n Y U D m:=⟨k59.own h.own,fun i hi=>(h.lay i hi).step k46 k26⟩
theorem TG.but {B:Nat}{w w':World}{v:Value}{k:Nat}{R:Nat→SL}{Z:Nat→List Int}{r:Option Nat}(h:TG B w v k R Z)(kb:KeepsBut 31 r w w')(hv:∀ g,v.ownBlock=some g→r≠some g)(k46:Keeps 118 w w'):TG B w' v k R Z:=⟨kb.own hv h.own,fun j hj=>(h.row j hj).step k46⟩
structure LayS (WR:World) (xb sb lb N:Nat) (ws:List Int) (cnt:Nat→Nat) (K:Nat) (cs:Array Value) (W:World):Prop where
 only:Only xb WR W
 cut:CutAt W xb sb N ws (offs cnt K)
 blk:Blk 61 W lb cs
theorem LayS.step {WR W W':World}{xb sb lb N:Nat}{ws:List Int}{cnt:Nat→Nat}{K:Nat}{cs:Array Value}(h:LayS WR xb sb lb N ws cnt K cs W)(hlb:WR.heap.size≤lb)(hx:xb<WR.heap.size)(hs:sb<WR.heap.size)(on:Only xb W W')(cut':CutAt W' xb sb N ws (offs cnt (K+1)))(r:Nat){o:Value}(old:cs[r]? = some o)(s:SL){cs':Array Value}(ec:cs.setIfInBounds r (.slice s.a s.n s.c)=cs') :
  ∃ V,W'.setCell ⟨lb,r,none⟩ (.slice s.a s.n s.c)=V∧W'.cell? ⟨lb,r,none⟩=some o∧W'.frozen? ⟨lb,r,none⟩=false∧LayS WR xb sb lb N ws cnt (K+1) cs' V∧Keeps 118 W V∧Keeps 118 W' V:=by
 have q:=h.blk.only on (by omega)
 have o2:Only lb W' (W'.setCell ⟨lb,r,none⟩ (.slice s.a s.n s.c)):=Only.set _ _ _ _
 have k2:Keeps 118 W' (W'.setCell ⟨lb,r,none⟩ (.slice s.a s.n s.c)):=Keeps.of_only o2 q (by decide)
 exact⟨_,rfl,q.cell r old,q.open_ r,⟨(h.only.trans on).new hlb o2,cut'.only o2 (by omega) (by omega),ec ▸ q.set r _⟩,(h.cut.keeps on (by decide)).trans k2,k2⟩
structure ShI (A:World) (xb sb mb N:Nat) (ws:List Int) (cnt:Nat→Nat) (ne:Nat) (C:SL→SL→Array Value) (sE:SL) (m:ModV) (i:Nat) (W:World):Prop where
 only:Only xb A W
 cut:CutAt W xb sb N ws (offs cnt (1+i*pl ne))
 te:TS A.heap.size W sE m.e
 mod:∃ (L:SL) (Y U D:Nat→Nat→SL),Blk 34 W mb (C sE L)∧TL A.heap.size W (.slice L.a L.n L.c) i Y U D m
def ckApart (u d:Value):Prop:=∀ g,u.ownBlock=some g→d.ownBlock≠some g
structure NetI (WR V6:World) (xb sb lb N:Nat) (ws:List Int) (cnt:Nat→Nat) (K0:Nat) (C:SL→SL→Array Value) (zu zd:Nat→List Int) (k:Nat) (W:World):Prop where
 only:Only xb WR W
 cut:CutAt W xb sb N ws (offs cnt (K0+2*k))
 nets:∃ (u d:SL) (RU RD:Nat→SL),Blk 61 W lb (C u d)∧TG WR.heap.size W (.slice u.a u.n u.c) k RU zu∧TG WR.heap.size W (.slice d.a d.n d.c) k RD zd∧ckApart (.slice u.a u.n u.c) (.slice d.a d.n d.c)
 k46:Keeps 118 V6 W
 size:V6.heap.size≤W.heap.size
theorem apart_of {w0 w1:World}{B:Nat}{u d u' d':Value}{k k':Nat}{R R':Nat→SL}{Z Z':Nat→List Int}(h:ckApart u d)(hd:TG B w0 d k R Z)(hu':TG B w1 u' k' R' Z')(ou:OB u w0 u')(od:OB d w1 d'):ckApart u' d':=by
 intro g h1 h2
 rcases od with e|⟨b,hb,e⟩
 ·rcases ou with e'|⟨b',hb',e'⟩
  ·exact h g (by rw[←e'];exact h1) (by rw[←e];exact h2)
  ·have:b'=g:=Option.some.inj (e'.symm.trans h1)
   have:=(hd.own.lt g (by rw[←e];exact h2)).2
   omega
 ·have:b=g:=Option.some.inj (e.symm.trans h2)
  have:=(hu'.own.lt g h1).2
  omega
theorem fin12 {X:World}{mb:Nat}{cs cs':Array Value}(q:Blk 34 X mb cs)(r:Nat)(s:SL){o:Value}(old:cs[r]? = some o)(ec:cs.setIfInBounds r (.slice s.a s.n s.c)=cs'):∃ V,X.setCell ⟨mb,r,none⟩ (.slice s.a s.n s.c)=V∧X.cell? ⟨mb,r,none⟩=some o∧X.frozen? ⟨mb,r,none⟩=false∧Blk 34 V mb cs'∧Only mb X V∧(∀ t,t≠34→Keeps t X V) :=
 ⟨_,rfl,q.cell r old,q.open_ r,ec ▸ q.set r _,Only.set _ _ _ _,fun t ht=>Keeps.of_only (Only.set _ _ _ _) q ht⟩
theorem firD_out {s:Nat}(h:s ∉ [27,28,29,30,31,32,33,34,8]):∀ j,j<10→firD j≠some s:=by
 intro j hj e
 apply h
 have H:∀ j,j<10→(match firD j with|some s=>decide (s∈[27,28,29,30,31,32,33,34,8])|none=>true)=true:=by decide
 have:=H j hj
 rw[e] at this
 simpa using this
theorem refShape_few (h v u x t n:Int)(D DD XD UD VD ln nW cW:Nat)(xa:Addr)(ws:List Int)(e1:v*(D:Int)=(VD:Int))(e2:(D:Int)*(D:Int)=(DD:Int))(e3:x*(D:Int)=(XD:Int))(e4:u*(D:Int)=(UD:Int))(e5:(D:Int)*u=(UD:Int))(xlt:x<1)
  (b0:D≤8) (b1:VD≤1000) (b2:DD≤1000) (b3:XD≤1000) (b4:UD≤1000) (l1:ln≤2) (w:World)
  (k10:∀ w,Calls Tryz.prog 46 #[.agg #[.int .i64 (D:Int),.int .i64 h,.int .i64 (ln:Int),.int .i64 v,.int .i64 u,.int .i64 x,.int .i64 t,.int .i64 n]] w fun e w'=>e=.returned (.bool true)∧Below w.heap.size w w')
  (k12:∀ w,Calls Tryz.prog 37 #[.agg #[.int .i64 (D:Int),.int .i64 h,.int .i64 (ln:Int),.int .i64 v,.int .i64 u,.int .i64 x,.int .i64 t,.int .i64 n]] w fun e w'=>e=.returned (.int .i64 (nW:Int))∧Below w.heap.size w w')
  (rd:Reads .i8 w (some xa) nW ws) (hc:nW≤cW) (hn:nW≤100000) (hfit:offs (planC ln 1 D DD XD UD VD) (1+ln*pl 1+2)=nW) (hxa:xa.block<w.heap.size) :
  Calls Tryz.prog 33 #[.agg #[.int .i64 (D:Int),.int .i64 h,.int .i64 (ln:Int),.int .i64 v,.int .i64 u,.int .i64 x,.int .i64 t,.int .i64 n],.slice (some xa) nW cW] w fun e w'=>∃ E L N O:SL,∃ Y U D',e=.returned (.tuple #[.agg #[.int .i64 (D:Int),.int .i64 h,.int .i64 (ln:Int),.int .i64 v,.int .i64 u,.int .i64 x,.int .i64 t,.int .i64 n,.slice E.a E.n E.c,.slice L.a L.n L.c,.slice N.a N.n N.c,.slice O.a O.n O.c],.int .i64 0]) ∧
   NewM w.heap.size w' E L N O Y U D' (ofSeq ln 1 (seg (planC ln 1 D DD XD UD VD) ws))∧Below w.heap.size w w':=by
 have cl:=fun i r hi hr=>planC_list (ln:=ln) (ne:=1) (D:=D) (DD:=DD) (XD:=XD) (UD:=UD) (VD:=VD) i r hi hr
 have cu:=fun i j hi hj=>planC_up (ln:=ln) (ne:=1) (D:=D) (DD:=DD) (XD:=XD) (UD:=UD) (VD:=VD) i j hi hj
 have cd:=fun i j hi hj=>planC_down (ln:=ln) (ne:=1) (D:=D) (DD:=DD) (XD:=XD) (UD:=UD) (VD:=VD) i j hi hj
 have cn:=planC_norm (ln:=ln) (ne:=1) (D:=D) (DD:=DD) (XD:=XD) (UD:=UD) (VD:=VD)
 have co:=planC_out (ln:=ln) (ne:=1) (D:=D) (DD:=DD) (XD:=XD) (UD:=UD) (VD:=VD)
 have c0:planC ln 1 D DD XD UD VD 0=VD:=rfl
 obtain⟨cnt,ecnt⟩:∃ c,planC ln 1 D DD XD UD VD=c:=⟨_,rfl⟩
 rw[ecnt] at hfit cn co c0 ⊢
 simp only[ecnt] at cl cu cd
 clear ecnt
 have FIT:∀ k,k<1+ln*pl 1+2→offs cnt (k+1)≤nW:=fun k hk=>by rw[←hfit];exact offs_mono cnt hk
 have hb:=bNw (bNw (Below.refl w.heap.size w) (.cells #[.int .i64 (D:Int),.int .i64 h,.int .i64 (ln:Int),.int .i64 v,.int .i64 u,.int .i64 x,.int .i64 t,.int .i64 n] 23)) (.cells #[.int .i64 0,.int .i64 0,.int .i64 0,.int .i64 0,.int .i64 0,.int .i64 0,.int .i64 0,.int .i64 0,.slice none 0 0,.slice none 0 0,.slice none 0 0,.slice none 0 0] 34)
 have q0:Blk 23 ((w.alloc (.cells #[.int .i64 (D:Int),.int .i64 h,.int .i64 (ln:Int),.int .i64 v,.int .i64 u,.int .i64 x,.int .i64 t,.int .i64 n] 23)).alloc (.cells #[.int .i64 0,.int .i64 0,.int .i64 0,.int .i64 0,.int .i64 0,.int .i64 0,.int .i64 0,.int .i64 0,.slice none 0 0,.slice none 0 0,.slice none 0 0,.slice none 0 0] 34)) w.heap.size #[.int .i64 (D:Int),.int .i64 h,.int .i64 (ln:Int),.int .i64 v,.int .i64 u,.int .i64 x,.int .i64 t,.int .i64 n]:=(Blk.new 23 w _).kept (bNw (Below.refl _ _) _)
 have qr:Blk 34 ((w.alloc (.cells #[.int .i64 (D:Int),.int .i64 h,.int .i64 (ln:Int),.int .i64 v,.int .i64 u,.int .i64 x,.int .i64 t,.int .i64 n] 23)).alloc (.cells #[.int .i64 0,.int .i64 0,.int .i64 0,.int .i64 0,.int .i64 0,.int .i64 0,.int .i64 0,.int .i64 0,.slice none 0 0,.slice none 0 0,.slice none 0 0,.slice none 0 0] 34)) (w.heap.size+1) #[.int .i64 0,.int .i64 0,.int .i64 0,.int .i64 0,.int .i64 0,.int .i64 0,.int .i64 0,.int .i64 0,.slice none 0 0,.slice none 0 0,.slice none 0 0,.slice none 0 0]:=Blk.new_at 34 (w.alloc _) _ _ (by simp)
 obtain⟨d0,d1,d2,d3,d4,d5,d6,d7⟩:=q0.cfg
 have HR:=hdn (And.intro rd (And.intro hc hfit))
 have HCN:=hdn (And.intro cl (And.intro cu (And.intro cd (And.intro cn (And.intro co (And.intro c0 FIT))))))
 clear rd hc hfit cl cu cd cn co c0 FIT
 go_enter Tryz.func33,Tryz.ntmps33
 go_wp2_with (first
  | (go_at_call 46;refine (k10 _).mono ?_;rintro e W1 ⟨rfl,h1⟩;replace q0:=q0.kept h1;replace qr:=qr.kept h1;replace hb:=bTn hb h1;clear h1 k10 d0 d1 d2 d3 d4 d5 d6 d7;obtain⟨d0,d1,d2,d3,d4,d5,d6,d7⟩:=q0.cfg)
  | (go_at_call 37;refine (k12 _).mono ?_;rintro e W2 ⟨rfl,h2⟩;replace q0:=q0.kept h2;replace qr:=qr.kept h2;replace hb:=bTn hb h2;obtain⟨A,eA⟩:∃ A,W2.alloc (.cells #[.slice (some xa) nW cW] 114)=A:=⟨_,rfl⟩;have bA:Below W2.heap.size W2 A:=eA ▸ bNw (Below.refl _ _) _;have zA:A.heap.size=W2.heap.size+1:=(by rw[←eA];simp);have qx:Blk 114 A W2.heap.size #[.slice (some xa) nW cW]:=eA ▸ Blk.new 114 W2 _;clear h2 k12 d0 d1 d2 d3 d4 d5 d6 d7;obtain⟨d0,d1,d2,d3,d4,d5,d6,d7⟩:=q0.cfg))
 have q0A:=q0.kept bA
 have qrA:=qr.kept bA
 have hs2:w.heap.size≤W2.heap.size:=hb.size
 have hrl:=qr.lt
 have hbA:=bTn hb bA
 clear d0 d1 d2 d3 d4 d5 d6 d7 q0 qr bA
 refine first_region (D:Int) h (ln:Int) v u x t n W2.heap.size w.heap.size xa.block nW ws cnt (by kernel_rfl) rfl ⟨_,rfl,rfl,rfl,rfl,by kernel_rfl⟩ ⟨_,rfl,rfl,rfl,rfl,by kernel_rfl⟩ ⟨_,rfl,rfl,rfl,rfl,by kernel_rfl⟩ ⟨_,rfl,rfl,rfl,rfl,by kernel_rfl⟩ ⟨_,rfl,rfl,rfl,rfl,by kernel_rfl⟩ ⟨_,rfl,rfl,rfl,rfl,by kernel_rfl⟩ ⟨_,rfl,rfl,rfl,rfl,by kernel_rfl⟩ ⟨_,rfl,rfl,rfl,rfl,by kernel_rfl⟩ ⟨_,rfl,rfl,rfl,rfl,by kernel_rfl⟩ ⟨_,rfl,rfl,rfl,rfl,by kernel_rfl⟩ (fun w=>by rw[HCN.out.2.2.2.2.2.1];go_simp;exact wrap_fits (by omega) (by omega)) q0A rfl rfl rfl ⟨xa,cW,by simpa using qx,rfl,by simpa using HR.out.1.below hbA,by have:=HR.out.2.1;omega⟩ (by have:=HCN.out.2.2.2.2.2.2 0 (by omega);simpa [offs] using this) hn (by omega) (by omega) (by omega) (Nat.le_of_ble_eq_true rfl) ?_
 intro a W3 mb sE hs hd hkp v8 hmb qm tE hcut on3
 have ep:=fPu [27,28,29,30,31,32,33,34,8] hs hd (fun s h'=>hkp s (firD_out h'))
 simp only[List.foldl] at ep
 rw[v8] at ep
 clear hs hd hkp v8 eA qx
 generalize a.tmps.getD 27 undef=g27,a.tmps.getD 28 undef=g28,a.tmps.getD 29 undef=g29,a.tmps.getD 30 undef=g30,a.tmps.getD 31 undef=g31,a.tmps.getD 32 undef=g32,a.tmps.getD 33 undef=g33,a.tmps.getD 34 undef=g34 at ep
 simp only[Act.put,List.setIfInBounds_toArray,List.set_cons_succ,List.set_cons_zero] at ep
 subst ep
 have INIT:Hid (ShI A W2.heap.size xa.block mb nW ws cnt 1 (fun sE L=>#[.int .i64 (D:Int),.int .i64 h,.int .i64 (ln:Int),.int .i64 v,.int .i64 u,.int .i64 x,.int .i64 t,.int .i64 n,.slice sE.a sE.n sE.c,.slice L.a L.n L.c,.slice none 0 0,.slice none 0 0]) sE (ofSeq ln 1 (seg cnt ws)) 0 W3):=⟨on3,(by rw[Nat.zero_mul];exact hcut),tE,⟨none,0,0⟩,(fun _ _=>SL.nought),(fun _ _=>SL.nought),(fun _ _=>SL.nought),qm,TL.nil _ _ _ _ _ _⟩
 have HA:=hdn (And.intro hbA (And.intro q0A (And.intro qrA (And.intro hmb (And.intro zA (And.intro hs2 hrl))))))
 have K55:∀ (k:Nat) (z:Int) (W:World),k<1+ln*pl 1+2→(cnt k:Int)=z→CutAt W W2.heap.size xa.block nW ws (offs cnt k)→Calls Tryz.prog 61 #[.pointer (some ⟨W2.heap.size,0,none⟩),.int .i64 z] W fun e W'=>∃ s:SL,e=.returned (.slice s.a s.n s.c)∧TS W.heap.size W' s (seg cnt ws k)∧CutAt W' W2.heap.size xa.block nW ws (offs cnt (k+1))∧Only W2.heap.size W W':=fun k z W hk hz hcu=>by
  rw[←hz]
  exact next_seg hcu (HCN.out.2.2.2.2.2.2 k hk) hn (by omega)
 clear hbA q0A qrA hmb zA on3 hcut tE qm hb
 go_wp2
 go_loopw [9,10,11] (fun i _ _ wr=>∃ k:Nat,k≤ln∧i=.int .i64 k∧ShI A W2.heap.size xa.block mb nW ws cnt 1 (fun sE L=>#[.int .i64 (D:Int),.int .i64 h,.int .i64 (ln:Int),.int .i64 v,.int .i64 u,.int .i64 x,.int .i64 t,.int .i64 n,.slice sE.a sE.n sE.c,.slice L.a L.n L.c,.slice none 0 0,.slice none 0 0]) sE (ofSeq ln 1 (seg cnt ws)) k wr) (fun i _ _ _=>ln-(intOf i).toNat)
 case atStart=>exact⟨0,Nat.zero_le _,rfl,INIT.out⟩
 case round =>
  obtain⟨k,hk,rfl,SH⟩:=hrel
  clear INIT
  obtain⟨WR,eWR⟩:∃ WR,WR=wr:=⟨_,rfl⟩
  subst eWR
  obtain⟨hbA,q0A,qrA,hmb,zA,hs2',hrl'⟩:=HA.out
  have sAW:=SH.only.size
  have q0R:=q0A.only SH.only (by omega)
  obtain⟨d0,d1,d2,d3,d4,d5,d6,d7⟩:=q0R.cfg
  by_cases hlt:k<ln
  ·have hlt':(k:Int)<(ln:Int):=by omega
   have hpl:(k+1)*pl 1≤ln*pl 1:=Nat.mul_le_mul_right _ (by omega)
   rw[Nat.add_mul,Nat.one_mul] at hpl
   have hpl2:pl 1=7+2*1:=rfl
   have xlt1:W2.heap.size<WR.heap.size:=by omega
   have slt1:xa.block<WR.heap.size:=by omega
   have bA1:Below WR.heap.size WR (WR.alloc (.cells #[.slice none 0 0,.slice none 0 0,.slice none 0 0,.slice none 0 0,.slice none 0 0,.slice none 0 0,.slice none 0 0,.slice none 0 0,.slice none 0 0] 61)):=bNw (Below.refl _ _) _
   have zA1:(WR.alloc (.cells #[.slice none 0 0,.slice none 0 0,.slice none 0 0,.slice none 0 0,.slice none 0 0,.slice none 0 0,.slice none 0 0,.slice none 0 0,.slice none 0 0] 61)).heap.size=WR.heap.size+1:=by simp
   have hS0:LayS WR W2.heap.size xa.block WR.heap.size nW ws cnt (1+k*pl 1+0) #[.slice none 0 0,.slice none 0 0,.slice none 0 0,.slice none 0 0,.slice none 0 0,.slice none 0 0,.slice none 0 0,.slice none 0 0,.slice none 0 0] (WR.alloc (.cells #[.slice none 0 0,.slice none 0 0,.slice none 0 0,.slice none 0 0,.slice none 0 0,.slice none 0 0,.slice none 0 0,.slice none 0 0,.slice none 0 0] 61)):=⟨Only.of_below bA1,SH.cut.below bA1,Blk.new 61 WR _⟩
   have HSH:=hdn SH
   have HQR:=hdn (And.intro q0R (And.intro zA1 (And.intro hpl hpl2)))
   have CC:Hid ((cnt (1+k*pl 1+0):Int)=(D:Int)∧(cnt (1+k*pl 1+1):Int)=(DD:Int)∧(cnt (1+k*pl 1+2):Int)=(DD:Int)∧(cnt (1+k*pl 1+3):Int)=(DD:Int)∧(cnt (1+k*pl 1+4):Int)=(DD:Int)∧(cnt (1+k*pl 1+5):Int)=(D:Int)∧(cnt (1+k*pl 1+6):Int)=(XD:Int)) :=
    ⟨by rw[HCN.out.1 k 0 hlt (by omega)];rfl,by rw[HCN.out.1 k 1 hlt (by omega)];rfl,by rw[HCN.out.1 k 2 hlt (by omega)];rfl,by rw[HCN.out.1 k 3 hlt (by omega)];rfl,by rw[HCN.out.1 k 4 hlt (by omega)];rfl,by rw[HCN.out.1 k 5 hlt (by omega)];rfl,by rw[HCN.out.1 k 6 hlt (by omega)];rfl⟩
   clear SH q0R q0A qrA hbA bA1 zA1 hmb zA hs2' hrl' hpl hpl2
   go_wp2_with (first
    | (go_at_call 61;refine (K55 (1+k*pl 1+0) (D:Int) _ (by have:=HQR.out.2.2;omega) CC.out.1 hS0.cut).mono ?_;rintro e Wc0 ⟨s0,rfl,ts0,hc0,on0⟩;obtain⟨V0,eV0,z0,o0,hS1,kp0,kq0⟩:=hS0.step (Nat.le_refl _) xlt1 slt1 on0 hc0 0 rfl s0 (cs':=#[.slice s0.a s0.n s0.c,.slice none 0 0,.slice none 0 0,.slice none 0 0,.slice none 0 0,.slice none 0 0,.slice none 0 0,.slice none 0 0,.slice none 0 0]) rfl;have t0:TS WR.heap.size V0 s0 (seg cnt ws (1+k*pl 1+0)):=(ts0.step kq0).le (by have:=HQR.out.2.1;omega); clear hS0 ts0 hc0 on0 d0 d1 d2 d3 d4 d5 d6 d7)
    | (go_at_call 61;refine (K55 (1+k*pl 1+1) (DD:Int) _ (by have:=HQR.out.2.2;omega) CC.out.2.1 hS1.cut).mono ?_;rintro e Wc1 ⟨s1,rfl,ts1,hc1,on1⟩;obtain⟨V1,eV1,z1,o1,hS2,kp1,kq1⟩:=hS1.step (Nat.le_refl _) xlt1 slt1 on1 hc1 1 rfl s1 (cs':=#[.slice s0.a s0.n s0.c,.slice s1.a s1.n s1.c,.slice none 0 0,.slice none 0 0,.slice none 0 0,.slice none 0 0,.slice none 0 0,.slice none 0 0,.slice none 0 0]) rfl;have t1:TS WR.heap.size V1 s1 (seg cnt ws (1+k*pl 1+1)):=(ts1.step kq1).le hS1.only.size;replace t0:=t0.step kp1;clear hS1 ts1 hc1 on1 eV0 z0 o0 kp0 kq0)
    | (go_at_call 61;refine (K55 (1+k*pl 1+2) (DD:Int) _ (by have:=HQR.out.2.2;omega) CC.out.2.2.1 hS2.cut).mono ?_;rintro e Wc2 ⟨s2,rfl,ts2,hc2,on2⟩;obtain⟨V2,eV2,z2,o2,hS3,kp2,kq2⟩:=hS2.step (Nat.le_refl _) xlt1 slt1 on2 hc2 2 rfl s2 (cs':=#[.slice s0.a s0.n s0.c,.slice s1.a s1.n s1.c,.slice s2.a s2.n s2.c,.slice none 0 0,.slice none 0 0,.slice none 0 0,.slice none 0 0,.slice none 0 0,.slice none 0 0]) rfl;have t2:TS WR.heap.size V2 s2 (seg cnt ws (1+k*pl 1+2)):=(ts2.step kq2).le hS2.only.size;replace t0:=t0.step kp2;replace t1:=t1.step kp2;clear hS2 ts2 hc2 on2 eV1 z1 o1 kp1 kq1)
    | (go_at_call 61;refine (K55 (1+k*pl 1+3) (DD:Int) _ (by have:=HQR.out.2.2;omega) CC.out.2.2.2.1 hS3.cut).mono ?_;rintro e Wc3 ⟨s3,rfl,ts3,hc3,on3⟩;obtain⟨V3,eV3,z3,o3,hS4,kp3,kq3⟩:=hS3.step (Nat.le_refl _) xlt1 slt1 on3 hc3 3 rfl s3 (cs':=#[.slice s0.a s0.n s0.c,.slice s1.a s1.n s1.c,.slice s2.a s2.n s2.c,.slice s3.a s3.n s3.c,.slice none 0 0,.slice none 0 0,.slice none 0 0,.slice none 0 0,.slice none 0 0]) rfl;have t3:TS WR.heap.size V3 s3 (seg cnt ws (1+k*pl 1+3)):=(ts3.step kq3).le hS3.only.size;replace t0:=t0.step kp3;replace t1:=t1.step kp3;replace t2:=t2.step kp3;clear hS3 ts3 hc3 on3 eV2 z2 o2 kp2 kq2)
    | (go_at_call 61;refine (K55 (1+k*pl 1+4) (DD:Int) _ (by have:=HQR.out.2.2;omega) CC.out.2.2.2.2.1 hS4.cut).mono ?_;rintro e Wc4 ⟨s4,rfl,ts4,hc4,on4⟩;obtain⟨V4,eV4,z4,o4,hS5,kp4,kq4⟩:=hS4.step (Nat.le_refl _) xlt1 slt1 on4 hc4 4 rfl s4 (cs':=#[.slice s0.a s0.n s0.c,.slice s1.a s1.n s1.c,.slice s2.a s2.n s2.c,.slice s3.a s3.n s3.c,.slice s4.a s4.n s4.c,.slice none 0 0,.slice none 0 0,.slice none 0 0,.slice none 0 0]) rfl;have t4:TS WR.heap.size V4 s4 (seg cnt ws (1+k*pl 1+4)):=(ts4.step kq4).le hS4.only.size;replace t0:=t0.step kp4;replace t1:=t1.step kp4;replace t2:=t2.step kp4;replace t3:=t3.step kp4;clear hS4 ts4 hc4 on4 eV3 z3 o3 kp3 kq3)
    | (go_at_call 61;refine (K55 (1+k*pl 1+5) (D:Int) _ (by have:=HQR.out.2.2;omega) CC.out.2.2.2.2.2.1 hS5.cut).mono ?_;rintro e Wc5 ⟨s5,rfl,ts5,hc5,on5⟩;obtain⟨V5,eV5,z5,o5,hS6,kp5,kq5⟩:=hS5.step (Nat.le_refl _) xlt1 slt1 on5 hc5 5 rfl s5 (cs':=#[.slice s0.a s0.n s0.c,.slice s1.a s1.n s1.c,.slice s2.a s2.n s2.c,.slice s3.a s3.n s3.c,.slice s4.a s4.n s4.c,.slice s5.a s5.n s5.c,.slice none 0 0,.slice none 0 0,.slice none 0 0]) rfl;have t5:TS WR.heap.size V5 s5 (seg cnt ws (1+k*pl 1+5)):=(ts5.step kq5).le hS5.only.size;replace t0:=t0.step kp5;replace t1:=t1.step kp5;replace t2:=t2.step kp5;replace t3:=t3.step kp5;replace t4:=t4.step kp5;clear hS5 ts5 hc5 on5 eV4 z4 o4 kp4 kq4;obtain⟨d0,d1,d2,d3,d4,d5,d6,d7⟩:=(HQR.out.1.only hS6.only (by omega)).cfg)
    | (go_at_call 61;refine (K55 (1+k*pl 1+6) (XD:Int) _ (by have:=HQR.out.2.2;omega) CC.out.2.2.2.2.2.2 hS6.cut).mono ?_;rintro e Wc6 ⟨s6,rfl,ts6,hc6,on6⟩;obtain⟨V6,eV6,z6,o6,hS7,kp6,kq6⟩:=hS6.step (Nat.le_refl _) xlt1 slt1 on6 hc6 6 rfl s6 (cs':=#[.slice s0.a s0.n s0.c,.slice s1.a s1.n s1.c,.slice s2.a s2.n s2.c,.slice s3.a s3.n s3.c,.slice s4.a s4.n s4.c,.slice s5.a s5.n s5.c,.slice s6.a s6.n s6.c,.slice none 0 0,.slice none 0 0]) rfl;have t6:TS WR.heap.size V6 s6 (seg cnt ws (1+k*pl 1+6)):=(ts6.step kq6).le hS6.only.size;replace t0:=t0.step kp6;replace t1:=t1.step kp6;replace t2:=t2.step kp6;replace t3:=t3.step kp6;replace t4:=t4.step kp6;replace t5:=t5.step kp6;clear hS6 ts6 hc6 on6 eV5 z5 o5 kp5 kq5))
   clear z6 o6 eV6 kp6 kq6 d0 d1 d2 d3 d4 d5 d6 d7
   have NI0:Hid (NetI WR V6 W2.heap.size xa.block WR.heap.size nW ws cnt (1+k*pl 1+7) (fun uu dd=>#[.slice s0.a s0.n s0.c,.slice s1.a s1.n s1.c,.slice s2.a s2.n s2.c,.slice s3.a s3.n s3.c,.slice s4.a s4.n s4.c,.slice s5.a s5.n s5.c,.slice s6.a s6.n s6.c,.slice uu.a uu.n uu.c,.slice dd.a dd.n dd.c]) ((ofSeq ln 1 (seg cnt ws)).u k) ((ofSeq ln 1 (seg cnt ws)).d k) 0 V6):=⟨hS7.only,hS7.cut,⟨⟨none,0,0⟩,⟨none,0,0⟩,(fun _=>SL.nought),(fun _=>SL.nought),hS7.blk,TG.nil _ _ _ _,TG.nil _ _ _ _,(fun g hg=>by cases hg)⟩,Keeps.refl _ _,Nat.le_refl _⟩
   have HT:=hdn (And.intro t0 (And.intro t1 (And.intro t2 (And.intro t3 (And.intro t4 (And.intro t5 t6))))))
   clear t0 t1 t2 t3 t4 t5 t6 hS7
   go_loopw [11] (fun j wr=>∃ q:Nat,q≤1∧j=.int .i64 q∧NetI WR V6 W2.heap.size xa.block WR.heap.size nW ws cnt (1+k*pl 1+7) (fun uu dd=>#[.slice s0.a s0.n s0.c,.slice s1.a s1.n s1.c,.slice s2.a s2.n s2.c,.slice s3.a s3.n s3.c,.slice s4.a s4.n s4.c,.slice s5.a s5.n s5.c,.slice s6.a s6.n s6.c,.slice uu.a uu.n uu.c,.slice dd.a dd.n dd.c]) ((ofSeq ln 1 (seg cnt ws)).u k) ((ofSeq ln 1 (seg cnt ws)).d k) q wr) (fun j _=>1-(intOf j).toNat)
   case atStart=>exact⟨0,Nat.zero_le _,rfl,NI0.out⟩
   case round =>
    obtain⟨q,hq,rfl,NI⟩:=hrel
    clear NI0
    have q0q:=HQR.out.1.only NI.only (by omega)
    obtain⟨d0,d1,d2,d3,d4,d5,d6,d7⟩:=q0q.cfg
    by_cases hl2:q<1
    ·have hz3:(q:Int)<1:=by omega
     obtain⟨uu,dd,RU,RD,qlb,tU,tD,hap⟩:=NI.nets
     have HNI:=hdn NI
     have hsz:=NI.only.size
     clear NI q0q
     go_wp2
     refine net_regionU (D:Int) h (ln:Int) v u x t n 88 7 W2.heap.size w.heap.size xa.block WR.heap.size nW (1+k*pl 1+7+2*q) q WR.heap.size ws cnt _ uu.a uu.n uu.c RU ((ofSeq ln 1 (seg cnt ws)).u k) WR (by kernel_rfl) rfl ⟨_,rfl,rfl,rfl,rfl,by kernel_rfl⟩ ⟨_,rfl,rfl,rfl,rfl,by kernel_rfl⟩ ⟨_,rfl,rfl,rfl,rfl,by kernel_rfl⟩ ⟨_,rfl,rfl,rfl,rfl,by kernel_rfl⟩ ⟨_,rfl,rfl,rfl,rfl,by kernel_rfl⟩ ⟨_,rfl,rfl,rfl,rfl,by kernel_rfl⟩ ⟨_,rfl,rfl,rfl,rfl,by kernel_rfl⟩ ⟨_,rfl,rfl,rfl,rfl,by kernel_rfl⟩ ⟨_,rfl,rfl,rfl,rfl,by kernel_rfl⟩ ⟨_,rfl,rfl,rfl,rfl,by kernel_rfl⟩ ⟨_,rfl,rfl,rfl,rfl,by kernel_rfl⟩ ⟨_,rfl,rfl,rfl,rfl,by kernel_rfl⟩ (fun w=>by rw[HCN.out.2.1 k q hlt hl2];go_simp;exact wrap_fits (by omega) (by omega)) (by decide) (Nat.le_of_ble_eq_true rfl) (by decide) HQR.out.1 rfl rfl rfl rfl HNI.out.only HNI.out.cut (HCN.out.2.2.2.2.2.2 _ (by have:=HQR.out.2.2;omega)) hn (by omega) (by omega) xlt1 slt1 (Nat.le_refl _) (Nat.le_refl _) hsz qlb rfl tU rfl (by omega) ?_
     intro a X1 vU SU hs hd hkp onX cutX blkX tgX obX k46X kbX szX
     have ep:=fPu [88,89,90,91,92,93,94,95,96,97,98] hs hd (fun s h'=>hkp s (by simp at h';omega))
     simp only[List.foldl] at ep
     clear hs hd hkp d0 d1 d2 d3 d4 d5 d6 d7
     generalize a.tmps.getD 88 undef=g88,a.tmps.getD 89 undef=g89,a.tmps.getD 90 undef=g90,a.tmps.getD 91 undef=g91,a.tmps.getD 92 undef=g92,a.tmps.getD 93 undef=g93,a.tmps.getD 94 undef=g94,a.tmps.getD 95 undef=g95,a.tmps.getD 96 undef=g96,a.tmps.getD 97 undef=g97,a.tmps.getD 98 undef=g98 at ep
     simp only[Act.put,List.setIfInBounds_toArray,List.set_cons_succ,List.set_cons_zero] at ep
     subst ep
     obtain⟨ua,un,uc,euv⟩:=tgX.slice
     subst euv
     have tDX:=tD.but kbX (fun g hg hu=>hap g hu hg) k46X
     go_wp2
     refine net_regionD (D:Int) h (ln:Int) v u x t n 99 8 W2.heap.size w.heap.size xa.block WR.heap.size nW (1+k*pl 1+7+2*q+1) q WR.heap.size ws cnt _ dd.a dd.n dd.c RD ((ofSeq ln 1 (seg cnt ws)).d k) WR (by kernel_rfl) rfl ⟨_,rfl,rfl,rfl,rfl,by kernel_rfl⟩ ⟨_,rfl,rfl,rfl,rfl,by kernel_rfl⟩ ⟨_,rfl,rfl,rfl,rfl,by kernel_rfl⟩ ⟨_,rfl,rfl,rfl,rfl,by kernel_rfl⟩ ⟨_,rfl,rfl,rfl,rfl,by kernel_rfl⟩ ⟨_,rfl,rfl,rfl,rfl,by kernel_rfl⟩ ⟨_,rfl,rfl,rfl,rfl,by kernel_rfl⟩ ⟨_,rfl,rfl,rfl,rfl,by kernel_rfl⟩ ⟨_,rfl,rfl,rfl,rfl,by kernel_rfl⟩ ⟨_,rfl,rfl,rfl,rfl,by kernel_rfl⟩ ⟨_,rfl,rfl,rfl,rfl,by kernel_rfl⟩ ⟨_,rfl,rfl,rfl,rfl,by kernel_rfl⟩ (fun w=>by rw[HCN.out.2.2.1 k q hlt hl2];go_simp;exact wrap_fits (by omega) (by omega)) (by decide) (Nat.le_of_ble_eq_true rfl) (by decide) HQR.out.1 rfl rfl rfl rfl onX cutX (HCN.out.2.2.2.2.2.2 _ (by have:=HQR.out.2.2;omega)) hn (by omega) (by omega) xlt1 slt1 (Nat.le_refl _) (Nat.le_refl _) (Nat.le_trans hsz szX) blkX rfl tDX rfl (by omega) ?_
     intro a X2 vD SD hs hd hkp onY cutY blkY tgY obY k46Y kbY szY
     have ep:=fPu [99,100,101,102,103,104,105,106,107,108,109] hs hd (fun s h'=>hkp s (by simp at h';omega))
     simp only[List.foldl] at ep
     clear hs hd hkp
     generalize a.tmps.getD 99 undef=g99,a.tmps.getD 100 undef=g100,a.tmps.getD 101 undef=g101,a.tmps.getD 102 undef=g102,a.tmps.getD 103 undef=g103,a.tmps.getD 104 undef=g104,a.tmps.getD 105 undef=g105,a.tmps.getD 106 undef=g106,a.tmps.getD 107 undef=g107,a.tmps.getD 108 undef=g108,a.tmps.getD 109 undef=g109 at ep
     simp only[Act.put,List.setIfInBounds_toArray,List.set_cons_succ,List.set_cons_zero] at ep
     subst ep
     obtain⟨da,dn,dc,edv⟩:=tgY.slice
     subst edv
     have hap2:=apart_of hap tD tgX obX obY
     have tUY:=tgX.but kbY (fun g hg hd'=>apart_of hap tD tgX obX (.inl rfl) g hg hd') k46Y
     have NX:Hid (NetI WR V6 W2.heap.size xa.block WR.heap.size nW ws cnt (1+k*pl 1+7) (fun uu dd=>#[.slice s0.a s0.n s0.c,.slice s1.a s1.n s1.c,.slice s2.a s2.n s2.c,.slice s3.a s3.n s3.c,.slice s4.a s4.n s4.c,.slice s5.a s5.n s5.c,.slice s6.a s6.n s6.c,.slice uu.a uu.n uu.c,.slice dd.a dd.n dd.c]) ((ofSeq ln 1 (seg cnt ws)).u k) ((ofSeq ln 1 (seg cnt ws)).d k) (q+1) X2):=⟨onY,(by rw[show 1+k*pl 1+7+2*(q+1)=1+k*pl 1+7+2*q+1+1 by omega];exact cutY),⟨⟨ua,un,uc⟩,⟨da,dn,dc⟩,_,_,blkY,tUY,tgY,hap2⟩,(HNI.out.k46.trans k46X).trans k46Y,Nat.le_trans (Nat.le_trans HNI.out.size szX) szY⟩
     clear onY cutY blkY tgY obY k46Y kbY szY onX cutX blkX tgX obX k46X kbX szX tDX tU tD hap hap2 tUY HNI qlb
     go_wp2
     go_roundw
     case rel=>exact⟨q+1,by omega,by go_num,NX.out⟩
     case measure=>simp[intOf];omega
    ·have hz3:¬(q:Int)<1:=by omega
     have hz4:decide ((q:Int)<1)=false:=by simp;omega
     obtain rfl:1=q:=by omega
     obtain⟨uu,dd,RU,RD,qlb,tU,tD,hap⟩:=NI.nets
     obtain⟨Y,eY⟩:∃ Y,wr=Y:=⟨_,rfl⟩
     subst eY
     have kWR:∀ t,t≠114→Keeps t WR wr:=fun t ht=>HSH.out.cut.keeps NI.only ht
     obtain⟨t0,t1,t2,t3,t4,t5,t6⟩:=HT.out
     obtain⟨L,YL,UL,DL,qmb,tL⟩:=HSH.out.mod
     have qmy:=(kWR 34 (by decide)).blk qmb
     have tLy:=tL.step (kWR 61 (by decide)) (kWR 118 (by decide)) (kWR 31 (by decide))
     have tEy:=HSH.out.te.step (kWR 118 (by decide))
     obtain⟨A3,eA3⟩:∃ A3,wr.alloc (.cells #[.slice s0.a s0.n s0.c,.slice s1.a s1.n s1.c,.slice s2.a s2.n s2.c,.slice s3.a s3.n s3.c,.slice s4.a s4.n s4.c,.slice s5.a s5.n s5.c,.slice s6.a s6.n s6.c,.slice uu.a uu.n uu.c,.slice dd.a dd.n dd.c] 61)=A3:=⟨_,rfl⟩
     have bA3:Below wr.heap.size wr A3:=eA3 ▸ bNw (Below.refl _ _) _
     have gA3:Blk 61 A3 wr.heap.size ((List.range 9).map fun r=>(nine s0 s1 s2 s3 s4 s5 s6 uu dd r).v).toArray:=eA3 ▸ Blk.new 61 wr _
     have sW:=NI.only.size
     have K46:Keeps 118 V6 A3:=NI.k46.trans (Keeps.of_below bA3)
     have sAW2:=HSH.out.only.size
     have hY:TY A.heap.size A3 (nine s0 s1 s2 s3 s4 s5 s6 uu dd) RU RD ((ofSeq ln 1 (seg cnt ws)).f k) ((ofSeq ln 1 (seg cnt ws)).un k) ((ofSeq ln 1 (seg cnt ws)).dn k) ((ofSeq ln 1 (seg cnt ws)).u k) ((ofSeq ln 1 (seg cnt ws)).d k):=⟨fun j hj=>by
      rcases (show j=0∨j=1∨j=2∨j=3∨j=4∨j=5∨j=6 by omega) with rfl|rfl|rfl|rfl|rfl|rfl|rfl
      ·exact (t0.step K46).le sAW2
      ·exact (t1.step K46).le sAW2
      ·exact (t2.step K46).le sAW2
      ·exact (t3.step K46).le sAW2
      ·exact (t4.step K46).le sAW2
      ·exact (t5.step K46).le sAW2
      ·exact (t6.step K46).le sAW2,(tU.below (B':=0) bA3).le sAW2,(tD.below (B':=0) bA3).le sAW2⟩
     have c0:=qlb.cell 0 rfl
     have c1:=qlb.cell 1 rfl
     have c2:=qlb.cell 2 rfl
     have c3:=qlb.cell 3 rfl
     have c4:=qlb.cell 4 rfl
     have c5:=qlb.cell 5 rfl
     have c6:=qlb.cell 6 rfl
     have c7:=qlb.cell 7 rfl
     have c8:=qlb.cell 8 rfl
     have c9:=qmy.cell 9 rfl
     have tL3:=tLy.below bA3
     have tE3:=tEy.below bA3
     have qm3:=qmy.kept bA3
     have on3':Only W2.heap.size A A3:=(HSH.out.only.trans NI.only).trans (Only.of_below bA3)
     have cut3:=NI.cut.below bA3
     have hmb':=HA.out.2.2.2.1
     have zA':=HA.out.2.2.2.2.1
     clear NI q0q kWR t0 t1 t2 t3 t4 t5 t6 qmb tL qmy tLy tEy K46 tU tD hap qlb bA3
     go_wp2_with (first
      | (at_builtin;refine wpList_layer2 rfl (.tmp 111) (.tmp 113) rfl A.heap.size k _ YL UL DL (ofSeq ln 1 (seg cnt ws)) _ RU RD wr.heap.size 1 rfl rfl tL3 gA3 hY (by omega) on3'.size ?_;intro v' w6 hg6 hob6 k29 k46 tL6;obtain⟨Ls,eLs⟩:=tL6.slice;subst eLs;have qm6:=k29.blk qm3;obtain⟨V9,eV9,z9,o9,q9,on9,k9⟩:=fin12 qm6 9 Ls (cs':=#[.int .i64 (D:Int),.int .i64 h,.int .i64 (ln:Int),.int .i64 v,.int .i64 u,.int .i64 x,.int .i64 t,.int .i64 n,.slice sE.a sE.n sE.c,.slice Ls.a Ls.n Ls.c,.slice none 0 0,.slice none 0 0]) rfl rfl;have NS:Hid (ShI A W2.heap.size xa.block mb nW ws cnt 1 (fun sE L=>#[.int .i64 (D:Int),.int .i64 h,.int .i64 (ln:Int),.int .i64 v,.int .i64 u,.int .i64 x,.int .i64 t,.int .i64 n,.slice sE.a sE.n sE.c,.slice L.a L.n L.c,.slice none 0 0,.slice none 0 0]) sE (ofSeq ln 1 (seg cnt ws)) (k+1) V9):=⟨(on3'.grown hg6 hob6).new hmb' on9,(by rw[show 1+(k+1)*pl 1=1+k*pl 1+7+2*1 by rw[Nat.add_mul];show _=1+k*(7+2*1)+7+2*1;show 1+(k*(7+2*1)+1*(7+2*1))=_;omega];exact (cut3.grown hg6 (fun e=>by have:=hob6 _ e;omega) (fun e=>by have:=hob6 _ e;omega)).only on9 (by omega) (by omega)),(tE3.step k46).step (k9 118 (by decide)),⟨Ls,_,_,_,q9,tL6.step (k9 61 (by decide)) (k9 118 (by decide)) (k9 31 (by decide))⟩⟩;clear hg6 hob6 k29 k46 tL6 qm6 q9 on9 k9 tL3 gA3 hY tE3 qm3 on3' cut3)
      )
     go_roundw
     case rel=>exact⟨k+1,by omega,by go_num,NS.out⟩
     case measure=>simp[intOf];omega
  ·have hge:¬(k:Int)<(ln:Int):=by omega
   have hge':decide ((k:Int)<(ln:Int))=false:=by simp;omega
   have ekl:k=ln:=by omega
   obtain⟨L,YL,UL,DL,qmb,tL⟩:=SH.mod
   have tE:=SH.te
   have onA:=SH.only
   have hcN:CutAt WR W2.heap.size xa.block nW ws (offs cnt (1+ln*pl 1)):=by rw[←ekl];exact SH.cut
   have tL':TL A.heap.size WR (.slice L.a L.n L.c) ln YL UL DL (ofSeq ln 1 (seg cnt ws)):=by have h':=tL;rw[show k=ln from ekl] at h';exact h'
   have hqr:=HA.out.2.2.1
   have hbA':=HA.out.1
   have hmb':=HA.out.2.2.2.1
   have hsz7:=HA.out.2.2.2.2
   have EK:=hdn ekl
   clear SH tL ekl hbA q0A qrA hmb zA hs2' hrl'
   go_wp2_with (first
    | (go_at_call 61;refine (K55 (1+ln*pl 1) (D:Int) _ (by omega) (by rw[HCN.out.2.2.2.1]) hcN).mono ?_;rintro e X1 ⟨sN,rfl,tN,hcO,on1⟩;have kx:∀ t,t≠114→Keeps t WR X1:=fun t ht=>hcN.keeps on1 ht;obtain⟨X2,eX2,z10,o10,q2,on2,k2⟩:=fin12 ((kx 34 (by decide)).blk qmb) 10 sN (cs':=#[.int .i64 (D:Int),.int .i64 h,.int .i64 (ln:Int),.int .i64 v,.int .i64 u,.int .i64 x,.int .i64 t,.int .i64 n,.slice sE.a sE.n sE.c,.slice L.a L.n L.c,.slice sN.a sN.n sN.c,.slice none 0 0]) rfl rfl;have k12:∀ t,t≠114→t≠34→Keeps t WR X2:=fun t h1 h2=>(kx t h1).trans (k2 t h2);have onX2:Only W2.heap.size A X2:=(onA.trans on1).new hmb' on2;replace tE:=tE.step (k12 118 (by decide) (by decide));replace tN:=(tN.le onA.size).step (k2 118 (by decide));replace tL':=tL'.step (k12 61 (by decide) (by decide)) (k12 118 (by decide) (by decide)) (k12 31 (by decide) (by decide));replace hcO:=hcO.only on2 (by have:=hsz7.1;omega) (by have:=hsz7.1;omega);clear hcN on1 kx on2 k2 k12 qmb d0 d1 d2 d3 d4 d5 d6 d7;obtain⟨d0,d1,d2,d3,d4,d5,d6,d7⟩:=(HA.out.2.1.only onX2 (by omega)).cfg)
    | (go_at_call 61;refine (K55 (1+ln*pl 1+1) (VD:Int) _ (by omega) (by rw[HCN.out.2.2.2.2.1]) hcO).mono ?_;rintro e X3 ⟨sO,rfl,tO,hcX,on3⟩;have kx:∀ t,t≠114→Keeps t X2 X3:=fun t ht=>hcO.keeps on3 ht;obtain⟨X4,eX4,z11,o11,q4,on4,k4⟩:=fin12 ((kx 34 (by decide)).blk q2) 11 sO (cs':=#[.int .i64 (D:Int),.int .i64 h,.int .i64 (ln:Int),.int .i64 v,.int .i64 u,.int .i64 x,.int .i64 t,.int .i64 n,.slice sE.a sE.n sE.c,.slice L.a L.n L.c,.slice sN.a sN.n sN.c,.slice sO.a sO.n sO.c]) rfl rfl;have k34:∀ t,t≠114→t≠34→Keeps t X2 X4:=fun t h1 h2=>(kx t h1).trans (k4 t h2);have onX4:Only W2.heap.size A X4:=(onX2.trans on3).new hmb' on4;replace tE:=tE.step (k34 118 (by decide) (by decide));replace tN:=tN.step (k34 118 (by decide) (by decide));replace tO:=(tO.le onX2.size).step (k4 118 (by decide));replace tL':=tL'.step (k34 61 (by decide) (by decide)) (k34 118 (by decide) (by decide)) (k34 31 (by decide) (by decide));have qr4:=hqr.only onX4 (by have:=hsz7;omega);clear hcO on3 kx on4 k4 k34 q2 onX2 hcX d0 d1 d2 d3 d4 d5 d6 d7 z10 o10 eX2;obtain⟨a0,a1,a2,a3,a4,a5,a6,a7,a8,a9,a10,a11⟩:=q4.c12;obtain⟨r0,r1,r2,r3,r4,r5,r6,r7,r8,r9,r10,r11⟩:=qr4.c12;obtain⟨f0,f1,f2,f3,f4,f5,f6,f7,f8,f9,f10,f11⟩:=qr4.o12))
   obtain⟨W6,eW6,q6,only6,hz6⟩:=set12 qr4 (.int .i64 (D:Int)) (.int .i64 h) (.int .i64 (ln:Int)) (.int .i64 v) (.int .i64 u) (.int .i64 x) (.int .i64 t) (.int .i64 n) (.slice sE.a sE.n sE.c) (.slice L.a L.n L.c) (.slice sN.a sN.n sN.c) (.slice sO.a sO.n sO.c)
   rw[eW6]
   have K6:∀ t,t≠34→Keeps t X4 W6:=fun t ht=>Keeps.of_only only6 qr4 ht
   have hle:w.heap.size≤A.heap.size:=by omega
   have tL6:TL w.heap.size W6 (.slice L.a L.n L.c) (ofSeq ln 1 (seg cnt ws)).ln YL UL DL (ofSeq ln 1 (seg cnt ws)):=(tL'.step (K6 61 (by decide)) (K6 118 (by decide)) (K6 31 (by decide))).le hle
   obtain⟨L2,eL2,hN⟩:=tL6.new (E:=sE) (N:=sN) (O:=sO) ((tE.step (K6 118 (by decide))).le hle) ((tN.step (K6 118 (by decide))).le hle) ((tO.step (K6 118 (by decide))).le hle)
   obtain rfl:L=L2:=SL.v_inj eL2
   have bX4:Below w.heap.size w X4:=Only.below hbA' (by omega) hbA'.size onX4
   have bW6:Below w.heap.size w W6:=Only.below bX4 (by omega) bX4.size only6
   refine bodyPost_ret (v:=.tuple #[.agg #[.int .i64 (D:Int),.int .i64 h,.int .i64 (ln:Int),.int .i64 v,.int .i64 u,.int .i64 x,.int .i64 t,.int .i64 n,.slice sE.a sE.n sE.c,.slice L.a L.n L.c,.slice sN.a sN.n sN.c,.slice sO.a sO.n sO.c],.int .i64 0]) ?_ rfl ⟨sE,L,sN,sO,YL,UL,DL,rfl,hN,bW6⟩
   obtain⟨y0,y1,y2,y3,y4,y5,y6,y7,y8,y9,y10,y11⟩:=q6.c12
   simp[results,Tryz.results33,go_sem,y0,y1,y2,y3,y4,y5,y6,y7,y8,y9,y10,y11]
section
open Go.Sort hiding Below
theorem grcopied1 {W W1:World}{m:Nat}{zs:List Int}{v:Value}(ho:W1.ownsRow W.heap.size 118 1 v (0+m) ([]++zs.map (Value.int .i8)))(hg:(W.alloc (.cells #[] 118)).grownBy W1 (Value.slice (some ⟨W.heap.size,0,none⟩) 0 0).ownBlock)
  {a:Option Addr}{wz:World} (hr:Reads .i8 wz a m zs):∃ s:SL,v=.slice s.a s.n s.c∧s.n=m∧TS W.heap.size W1 s zs∧Below W.heap.size W W1:=by
 obtain⟨a1,c1,e1,r1,hb,n1,l1⟩:=copied (W:=W) (w:=W) (Below.refl _ W) (.cells #[] 118) ho hg hr
 simp only[Nat.zero_add,List.nil_append] at ho
 subst e1
 have ty:=own_typed ho
 refine⟨⟨a1,m,c1⟩,rfl,rfl,⟨⟨r1,n1,l1⟩,fun y hy=>⟨?_,ty y hy⟩⟩,hb⟩
 have hy':a1=some y:=hy
 rw[hy'] at ho
 exact (ho.lt y.block (by simp[Value.ownBlock])).1
def CutA (w:World)(ws:List Int)(T N q cb:Nat)(W:World):Prop:=∃ (y:Addr) (c:Nat),Blk 114 W cb #[.slice (some y) (T-q*N) c]∧Reads .i8 w (some y) (T-q*N) (ws.drop (q*N))∧T-q*N≤c
theorem CutA.below {w:World}{ws:List Int}{T N q cb:Nat}{W W':World}(h:CutA w ws T N q cb W)(hb:Below W.heap.size W W'):CutA w ws T N q cb W':=by
 obtain⟨y,c,k,r,l⟩:=h
 exact⟨y,c,k.kept hb,r,l⟩
theorem CutA.keeps {w:World}{ws:List Int}{T N q cb:Nat}{W W':World}(h:CutA w ws T N q cb W)(hb:Keeps 114 W W'):CutA w ws T N q cb W':=by
 obtain⟨y,c,k,r,l⟩:=h
 exact⟨y,c,hb.blk k,r,l⟩
theorem next_call (w:World)(ws:List Int)(T N q cb:Nat)(W:World)(hC:CutA w ws T N q cb W)(hq:q*N+N≤T)(hT:T≤100000)(hw:Below w.heap.size w W) :
  Calls Tryz.prog 61 #[.pointer (some ⟨cb,0,none⟩),.int .i64 (N:Int)] W fun e W'=>∃ s:SL,e=.returned (.slice s.a s.n s.c)∧TS W.heap.size W' s (segA N ws q)∧CutA w ws T N (q+1) cb W'∧Only cb W W'∧Keeps 37 W W'∧Keeps 63 W W'∧Keeps 118 W W':=by
 obtain⟨i0,hi,hz0,hz1,hz2⟩:=i118'
 obtain⟨x,c,hq0,hr0,hc⟩:=hC
 have enn:T-(q+1)*N=T-q*N-N:=by rw[Nat.add_mul,Nat.one_mul];omega
 have edr:ws.drop ((q+1)*N)=(ws.drop (q*N)).drop N:=by rw[List.drop_drop,Nat.add_mul,Nat.one_mul]
 obtain⟨n,en⟩:∃ n,T-q*N=n:=⟨_,rfl⟩
 have hk:N≤n:=by omega
 have hn:n≤100000:=by omega
 rw[en] at hq0 hr0 hc enn
 have hr:=hr0.below hw
 have hkc:(N:Int)≤(c:Int):=by omega
 have hkn:(N:Int)≤(n:Int):=by omega
 have k0:(0:Int)≤(N:Int):=by omega
 obtain⟨y,ey,ry⟩:∃ y:Addr,(if c=N then some x else some (x.add N))=some y∧Reads .i8 w (some y) (n-N) ((ws.drop (q*N)).drop N):=by
  by_cases e:c=N
  ·refine⟨x,by rw[if_pos e],?_⟩
   have hl:=hr.len
   rw[show n-N=0 by omega,List.drop_eq_nil_of_le (by omega)]
   exact⟨rfl,by omega,fun i=>by simpa using wf_nought .i8,fun h=>by omega,fun _ _ i hi=>by omega⟩
  ·refine⟨x.add N,by rw[if_neg e],?_⟩
   have:=hr0.cut N (n-N) (by omega)
   rwa [List.take_of_length_le (by rw[List.length_drop,hr.len];omega)] at this
 have c0:W.cell? ⟨cb,0,none⟩=some (.slice (some x) n c):=hq0.cell 0 rfl
 have key:∀ W1,Below W.heap.size W W1→W1.cell? ⟨cb,0,none⟩=some (.slice (some x) n c)∧W1.frozen? ⟨cb,0,none⟩=false∧Hid (Blk 114 W1 cb #[.slice (some x) n c]):=fun W1 hb=>⟨(hq0.kept hb).cell 0 rfl,(hq0.kept hb).open_ 0,hq0.kept hb⟩
 have rt:Reads .i8 W (some x) N (segA N ws q):=by have:=hr.cut 0 N (by omega);simpa [Addr.add,segA] using this
 have rt':Reads .i8 (W.alloc (.cells #[] 118)) (some x) N (segA N ws q):=rt.below (bNw (Below.refl _ _) _)
 have c0':(W.alloc (.cells #[] 118)).cell? ⟨cb,0,none⟩=some (.slice (some x) n c):=(hq0.kept (bNw (Below.refl _ _) _)).cell 0 rfl
 have own0:(W.alloc (.cells #[] 118)).ownsRow W.heap.size 118 1 (.slice (some ⟨W.heap.size,0,none⟩) 0 0) 0 []:=World.ownsRow_lit (base:=W.heap.size) (size:=1) W #[] 0 (Nat.le_refl _) (by unfold maxLen;omega) (by simp)
 have HK:=hdn key
 have HR:=hdn ry
 have HE:=hdn (And.intro enn edr)
 have HT:=hdn rt
 clear key hq0 ry enn edr hr hr0 en rt
 go_enter Tryz.func61,Tryz.ntmps61
 go_wp2_with (first
  | (at_builtin;refine wpList_copy rfl _ _ 31 rfl W.heap.size 118 i0 (.int .i8 0) 1 Tryz.underlying31 hi hz0 hz1 hz2 rfl _ 0 [] rfl own0 .i8 (some x) N c (segA N ws q) rfl rt' (by intro h;cases h) (by unfold maxLen;omega) (by omega) (by simp) ?_;intro v1 W1 ho hg;obtain⟨s,rfl,-,ts,hb⟩:=grcopied1 ho hg HT.out;obtain⟨g1,g2,g3⟩:=HK.out W1 hb;clear ho hg own0 c0'))
 go_ret
 have on:=Only.set cb 0 W1 (.slice (some y) (n-N) (c-N))
 refine⟨s,rfl,ts.step (Keeps.of_only on g3.out (by decide)),⟨y,c-N,?_,?_,?_⟩,(Only.of_below hb).trans on,(Keeps.of_below hb).trans (Keeps.of_only on g3.out (by decide)),(Keeps.of_below hb).trans (Keeps.of_only on g3.out (by decide)),(Keeps.of_below hb).trans (Keeps.of_only on g3.out (by decide))⟩
 ·rw[HE.out.1];exact g3.out.set 0 _
 ·rw[HE.out.1,HE.out.2];exact HR.out
 ·rw[HE.out.1];omega
end
theorem Blk.fro9 {t:TypeId}{w:World}{b:Nat}{cs:Array Value}(h:Blk t w b cs):w.frozen? ⟨b,0,none⟩=false∧w.frozen? ⟨b,1,none⟩=false∧w.frozen? ⟨b,2,none⟩=false∧w.frozen? ⟨b,3,none⟩=false∧w.frozen? ⟨b,4,none⟩=false∧w.frozen? ⟨b,5,none⟩=false∧w.frozen? ⟨b,6,none⟩=false∧w.frozen? ⟨b,7,none⟩=false∧w.frozen? ⟨b,8,none⟩=false :=
 ⟨h.open_ 0,h.open_ 1,h.open_ 2,h.open_ 3,h.open_ 4,h.open_ 5,h.open_ 6,h.open_ 7,h.open_ 8⟩
abbrev ask0:Aq:=⟨0,none,0,0,0,0,0,0,0,0,0⟩
abbrev Aq.with (q:Aq)(a:Option Addr)(c:Nat):Aq:=⟨q.k,a,q.n,c,q.L,q.S,q.sd,q.T,q.H,q.B,q.E⟩
theorem Aq.set1 (q:Aq)(p:Option Addr)(c:Nat):q.cs.setIfInBounds 1 (.slice p q.n c)=(q.with p c).cs:=rfl
theorem own_store {q:Aq}{w W1:World}{B:Nat}{p:Option Addr}{c:Nat}{zs:List Int}{xs:List Value}(q0:Blk 28 W1 B q.cs)(q1:Blk 28 W1 (B+1) ask0.cs)(r:Reads .i64 W1 p q.n zs)(hB:w.heap.size≤B)(hb:Below w.heap.size w W1) :
  ∃ V,W1.setCell ⟨B,1,none⟩ (.slice p q.n c)=V∧Blk 28 V B (q.with p c).cs∧Blk 28 V (B+1) ask0.cs∧Reads .i64 V p q.n zs∧Below w.heap.size w V:=by
 refine⟨_,rfl,?_,?_,r.store q0.ask.2.1 _,hb.setCell hB _⟩
 ·rw[←q.set1]
  exact q0.set 1 _
 ·exact (Below.heap_setCell _ _ _ _ (by simp)).trans q1
theorem ownAsk_call (q:Aq)(zs:List Int)(w:World)(h:AkAt w q zs)(hn:q.n≤1000) :
  Calls Tryz.prog 12 #[q.w] w fun e w'=>(∃ a c,e=.returned (Aq.w (q.with a c))∧AkAt w' (q.with a c) zs)∧Below w.heap.size w w':=by
 have hb:=bNw (bNw (Below.refl w.heap.size w) (.cells q.cs 28)) (.cells ask0.cs 28)
 have q0:Blk 28 ((w.alloc (.cells q.cs 28)).alloc (.cells ask0.cs 28)) w.heap.size q.cs:=(Blk.new 28 w _).kept (bNw (Below.refl _ _) _)
 have q1:Blk 28 ((w.alloc (.cells q.cs 28)).alloc (.cells ask0.cs 28)) (w.heap.size+1) ask0.cs:=by simpa using Blk.new 28 (w.alloc (.cells q.cs 28)) ask0.cs
 have hsz:((w.alloc (.cells q.cs 28)).alloc (.cells ask0.cs 28)).heap.size=w.heap.size+2:=by simp
 obtain⟨W,eW⟩:∃ W,(w.alloc (.cells q.cs 28)).alloc (.cells ask0.cs 28)=W:=⟨_,rfl⟩
 rw[eW] at hb q0 q1 hsz
 have hr:=h.t.below hb
 have i3:=info3
 obtain⟨i0,hi,hz0,hz1,hz2⟩:∃ i,Tryz.prog.info? 3=some i∧i.zero=some (.int .i64 0)∧i.size=1∧i.bytes=8:=by
  cases e:Tryz.prog.info? 3 with
  | none=>rw[e] at i3;cases i3
  | some i=>rw[e] at i3;simp at i3;exact⟨i,rfl,i3.1,i3.2.1,i3.2.2⟩
 clear i3
 have HZ:=hdn hsz
 clear hsz
 have wz:w.heap.size<W.heap.size:=q0.lt
 obtain⟨a0,a1,a2,a3,a4,a5,a6,a7,a8⟩:=(q0.kept (bNw (Below.refl _ W) (.cells #[] 3))).ask
 have kf:∀ (w:World) (a:Addr) (x:Nat) (m:Mode),(store a (.float .f64 x) m).run Tryz.prog w=stored Tryz.prog w a (.float .f64 x) m:=fun w a x m=>run_store Tryz.prog w a _ m rfl
 go_enter Tryz.func12,Tryz.ntmps12
 go_wp2_with (at_builtin;refine wpList_copy rfl (.tmp 3) (.tmp 5) 25 rfl W.heap.size 3 i0 (.int .i64 0) 8 Tryz.underlying25 hi hz0 hz1 hz2 rfl _ 0 [] rfl (World.ownsRow_lit _ #[] 0 (Nat.le_refl _) (by decide) rfl) .i64 q.a q.n q.c zs rfl (hr.below (bNw (Below.refl _ _) _)) h.te (by unfold maxLen;omega) (by omega) (bNw (Below.refl _ _) _).size ?_;intro v1 W1 ho1 hg1;have hob:=ho1;obtain⟨p1,c1,rfl,r1,hb1,e1,cap1⟩:=copied (Below.refl W.heap.size W) _ ho1 hg1 hr;clear ho1 hg1 a0 a1 a2 a3 a4 a5 a6 a7 a8;have q0':=q0.kept hb1;have q1':=q1.kept hb1;have hb':=bTn hb hb1;have a1:=q0'.ask.2.1;have f1:=q0'.open_ 1;obtain⟨V,eV,q2,q3,rV,hbV⟩:=own_store (xs:=[]) (c:=c1) q0' q1' r1 (Nat.le_refl _) hb';have ne:=own_type hob q1' (by decide);clear hob;have hrV:=hdn (And.intro rV (And.intro e1 (And.intro cap1 (And.intro q3 (And.intro hbV ne)))));clear q0' q1' hb' q0 q1 hb hb1 hr r1 rV e1 cap1 ne hbV;obtain⟨a0,b1,a2,a3,a4,a5,a6,a7,a8⟩:=q2.ask;obtain⟨x0,x1,x2,x3,x4,x5,x6,x7,x8⟩:=q3.ask;obtain⟨g0,g1,g2,g3,g4,g5,g6,g7,g8⟩:=q3.fro9;clear q2 q3)
 obtain⟨rV,e1,cap1,q3,hbV,ne⟩:=hrV.out
 have q4:=setFrom_all q3 (Aq.cs (q.with p1 c1)).toList rfl
 have r4:Reads .i64 (setFrom (w.heap.size+1) 0 (Aq.cs (q.with p1 c1)).toList V) p1 q.n zs:=rV.setFrom (t:=3) fun x hx _=>ne x hx
 have b4:=setFrom_below (w.heap.size+1) (Nat.le_succ _) (Aq.cs (q.with p1 c1)).toList 0 w V hbV
 obtain⟨y0,y1,y2,y3,y4,y5,y6,y7,y8⟩:=Blk.ask (q:=q.with p1 c1) q4
 obtain⟨V4,eV4⟩:∃ V4,setFrom (w.heap.size+1) 0 (Aq.cs (q.with p1 c1)).toList V=V4:=⟨_,rfl⟩
 rw[eV4] at r4 b4 y0 y1 y2 y3 y4 y5 y6 y7 y8
 simp only[setFrom] at eV4
 rw[eV4]
 refine bodyPost_ret (v:=Aq.w (q.with p1 c1)) ?_ rfl ⟨⟨p1,c1,rfl,⟨h.ws,h.wL,r4,e1,cap1⟩⟩,b4⟩
 simp[results,Tryz.results12,go_sem,y0,y1,y2,y3,y4,y5,y6,y7,y8]
end Go.Proofs.YtbkjhfmehemgpaaGreat

/- Texts put together. -/
import Derived.Test.YthliomlmhfjhnaaGreatZp25
import Derived.Test.YthliomlmhfjhnaaGreatZp8
import Derived.Test.YthliomlmhfjhnaaGreatZp7
import Derived.Maps.AppendAt
namespace Go.Proofs.YthliomlmhfjhnaaGreat
set_option maxRecDepth 20000
set_option maxHeartbeats 16000000
open Go.ChangeShapes Go.WideShapes Go.ChangeAt Go.RowKit
set_option linter.unusedVariables false
set_option linter.unusedSimpArgs false
theorem QaQ {ops:Array Oper}{rest:List Oper}{o:Oper}{a:Act}{w:World}{Q:Exit→Act→World→Prop}(hgd:o.guard=none)(s x:Operand)(ho:o.op=.call { callee:=.builtin .append,args:=#[s,x],argTypes:=#[24,24] })
  (B g:Nat) (S:SL) (zs:List Int) (hs:a.eval s=.slice (some ⟨g,0,none⟩) 0 0) (hx:a.eval x=S.w) (hS:IsS w S zs) (hl:zs.length≤140737488355328) (hg:B≤g) (hq:Blk 73 w g #[]) (hB:B≤w.heap.size)
  (h:∀ s' w',Bw w w'→TS B w' s' zs→wpList Tryz.prog ops Q rest (a.put o.dst (s'.w)) w'):wpList Tryz.prog ops Q (o :: rest) a w:=by
 refine wpList_plain hgd fun K hK=>?_
 obtain⟨s',w',hr,hb,ht⟩:=QcO w g B o.type S zs hS hl hg hq hB
 unfold Oper.wp execOp
 simp only[ho,resolve,invoke,builtin,Sem.run_bind,Sem.run_pure,Result.andThen_ok,List.map_toArray,List.map_cons,List.map_nil,hs,hx,hr]
 exact hK _ _ (h s' w' hb ht)
theorem Qee {ops:Array Oper}{rest:List Oper}{o:Oper}{a:Act}{w:World}{Q:Exit→Act→World→Prop}(hgd:o.guard=none)(s x:Operand)(ho:o.op=.call { callee:=.builtin .append,args:=#[s,x],argTypes:=#[63,63] })
  (B k:Nat) (v:Value) (R:Nat→SL) (Z:Nat→List Int) (S:SL) (g c:Nat) (hs:a.eval s=v) (hx:a.eval x=.slice (some ⟨g,0,none⟩) 1 c) (hT:TG B w v k R Z) (hc:w.cell? ⟨g,0,none⟩=some S.v) (hS:TS B w S (Z k)) (hl:(k+1)*24≤140737488355328) (hB:B≤w.heap.size)
  (h:∀ v' w',Below B w w'→Keeps 27 w w'→Keeps 65 w w'→TG B w' v' (k+1) (upd R k S) Z→wpList Tryz.prog ops Q rest (a.put o.dst v') w'):wpList Tryz.prog ops Q (o :: rest) a w:=by
 obtain⟨i0,hi,hz0,hz1,hz2⟩:=i24'
 refine wpList_plain hgd fun K hK=>?_
 refine wp_append_own w s x 63 ho B 24 i0 nilS 1 24 Tryz.underlying63 hi hz0 hz1 hz2 rfl (by decide) v k _ hs hT.own ⟨g,0,none⟩ 1 c [S.v] hx rfl (fun j u hj=>by
  match j,hj with
  | 0,hj=>simp at hj;subst hj;simpa [Addr.add] using hc) (fun u hu=>by simp at hu;subst hu;rfl) (by unfold maxLen;omega) hl hB fun v' w' own' hg _=>hK _ _ (h v' w' ?_ ?_ ?_ ?_)
 ·exact (Below.refl B w).grown hg hB fun g h=>(hT.own.lt g h).1
 ·exact Keeps.of_own hg hT.own (by decide)
 ·exact Keeps.of_own hg hT.own (by decide)
 ·have k46:Keeps 73 w w':=Keeps.of_own hg hT.own (by decide)
  refine⟨?_,fun j hj=>?_⟩
  ·rw[QcV,Qaz,Qcp (R':=R) (fun j hj=>Qal R k S (by omega))]
   exact own'
  ·by_cases e:j=k
   ·subst e
    rw[Qaz]
    exact hS.step k46
   ·rw[Qal R k S e]
    exact (hT.row j (by omega)).step k46
theorem Qgc {ops:Array Oper}{rest:List Oper}{o:Oper}{a:Act}{w:World}{Q:Exit→Act→World→Prop}(hgd:o.guard=none)(s x:Operand)(ho:o.op=.call { callee:=.builtin .append,args:=#[s,x],argTypes:=#[25,25] })
  (B k:Nat) (v:Value) (Y U D:Nat→Nat→SL) (m:ModV) (y uu dd:Nat→SL) (g c:Nat) (hs:a.eval s=v) (hx:a.eval x=.slice (some ⟨g,0,none⟩) 1 c) (hT:TL B w v k Y U D m) (hc:Blk 65 w g ((List.range 9).map fun r=>(y r).v).toArray)
  (hy:TY B w y uu dd (m.f k) (m.un k) (m.dn k) (m.u k) (m.d k)) (hl:(k+1)*216≤140737488355328) (hB:B≤w.heap.size)
  (h:∀ v' w',Below B w w'→TL B w' v' (k+1) (upd Y k y) (upd U k uu) (upd D k dd) m→wpList Tryz.prog ops Q rest (a.put o.dst v') w'):wpList Tryz.prog ops Q (o :: rest) a w:=by
 obtain⟨i0,hi,hz0,hz1,hz2⟩:=i65'
 refine wpList_plain hgd fun K hK=>?_
 refine wp_append_own w s x 25 ho B 65 i0 _ 9 216 Tryz.underlying25 hi hz0 hz1 hz2 rfl (by decide) v k _ hs hT.own ⟨g,0,none⟩ 1 c ((List.range 9).map fun r=>(y r).v) hx (by simp) (fun j u hj=>by
  have e:(⟨g,0,none⟩:Addr).add j=⟨g,j,none⟩:=by by_cases h:j=0<;>simp[Addr.add,h]
  rw[e]
  exact hc.cell j (by simpa using hj)) (fun u hu=>by obtain⟨r,_,rfl⟩:=List.mem_map.1 hu;rfl) (by unfold maxLen;omega) hl hB fun v' w' own' hg _=>hK _ _ (h v' w' ?_ ?_)
 ·exact (Below.refl B w).grown hg hB fun g h=>(hT.own.lt g h).1
 ·have k46:Keeps 73 w w':=Keeps.of_own hg hT.own (by decide)
  have k26:Keeps 24 w w':=Keeps.of_own hg hT.own (by decide)
  refine⟨?_,fun j hj=>?_⟩
  ·rw[Qba,Qaz,QdW (Y':=Y) (fun j hj r _=>by rw[Qal Y k y (by omega)])]
   exact own'
  ·by_cases e:j=k
   ·subst e
    rw[Qaz,Qaz,Qaz]
    exact hy.step k46 k26
   ·rw[Qal Y k y e,Qal U k uu e,Qal D k dd e]
    exact (hT.lay j (by omega)).step k46 k26
theorem arr9 {cs:Array Value}{F:Nat→Value}(h:cs.size=9)(hc:∀ f,f<9→cs[f]? = some (F f)):cs=#[F 0,F 1,F 2,F 3,F 4,F 5,F 6,F 7,F 8]:=by
 apply Array.ext
 ·simpa using h
 ·intro i h1 h2
  have e:=hc i (by omega)
  rw[Array.getElem?_eq_getElem h1] at e
  rw[Option.some.inj e]
  rcases l9 (show i<9 by omega) with rfl|rfl|rfl|rfl|rfl|rfl|rfl|rfl|rfl<;>rfl
theorem TG.below {B B':Nat}{w w':World}{v:Value}{k:Nat}{R:Nat→SL}{Z:Nat→List Int}(h:TG B w v k R Z)(hb:Bw w w'):TG B w' v k R Z:=h.step (Keeps.of_below hb) (Keeps.of_below hb)
theorem TL.below {B:Nat}{w w':World}{v:Value}{n:Nat}{Y U D:Nat→Nat→SL}{m:ModV}(h:TL B w v n Y U D m)(hb:Bw w w'):TL B w' v n Y U D m:=⟨(Keeps.of_below hb).own h.own,fun i hi=>(h.lay i hi).step (Keeps.of_below hb) (Keeps.of_below hb)⟩
theorem TS.le {B B':Nat}{w:World}{s:SL}{zs:List Int}(h:TS B w s zs)(hb:B'≤B):TS B' w s zs:=⟨h.is,fun x hx=>⟨Nat.le_trans hb (h.blk x hx).1,(h.blk x hx).2⟩⟩
theorem TG.le {B B':Nat}{w:World}{v:Value}{k:Nat}{R:Nat→SL}{Z:Nat→List Int}(h:TG B w v k R Z)(hb:B'≤B):TG B' w v k R Z:=by
 refine⟨⟨h.own.1,?_⟩,fun j hj=>(h.row j hj).le hb⟩
 rcases h.own.2 with h2|⟨g,cap,cur,hv,hg,r⟩
 ·exact .inl h2
 ·exact .inr ⟨g,cap,cur,hv,by omega,r⟩
theorem TL.le {B B':Nat}{w:World}{v:Value}{n:Nat}{Y U D:Nat→Nat→SL}{m:ModV}(h:TL B w v n Y U D m)(hb:B'≤B):TL B' w v n Y U D m:=by
 refine⟨⟨h.own.1,?_⟩,fun i hi=>⟨fun j hj=>((h.lay i hi).f j hj).le hb,(h.lay i hi).u.le hb,(h.lay i hi).d.le hb⟩⟩
 rcases h.own.2 with h2|⟨g,cap,cur,hv,hg,r⟩
 ·exact .inl h2
 ·exact .inr ⟨g,cap,cur,hv,by omega,r⟩
structure Fits (m:ModV):Prop where
 e:m.e.length≤140737488351232
 nm:m.nm.length≤140737488351232
 o:m.o.length≤140737488351232
 ln:m.ln≤20
 f:∀ i,i<m.ln→∀ j,j<7→(m.f i j).length≤140737488351232
 un:∀ i,i<m.ln→m.un i*24≤140737488351232
 dn:∀ i,i<m.ln→m.dn i*24≤140737488351232
 u:∀ i,i<m.ln→∀ j,j<m.un i→(m.u i j).length≤140737488351232
 d:∀ i,i<m.ln→∀ j,j<m.dn i→(m.d i j).length≤140737488351232
theorem Qa4 {t:TypeId}{w:World}{b:Nat}{cs cs':Array Value}(q:Blk t w b cs)(i:Nat)(v:Value)(e:cs.setIfInBounds i v=cs'):Blk t (w.setCell ⟨b,i,none⟩ v) b cs':=e ▸ q.set i v
def nine (a b c d e f g h i:SL)(r:Nat):SL:=match r with|0=>a|1=>b|2=>c|3=>d|4=>e|5=>f|6=>g|7=>h|_=>i
theorem Qi4 {W:World}{lb:Nat}{x0 x1 x2 x3 x4 x5 x6 x7 x8:Value}(q:Blk 65 W lb #[x0,x1,x2,x3,x4,x5,x6,x7,x8])(a b:Value):∃ V7 V8,W.setCell ⟨lb,7,none⟩ a=V7∧V7.setCell ⟨lb,8,none⟩ b=V8∧V7.cell? ⟨lb,8,none⟩=some x8∧V7.frozen? ⟨lb,8,none⟩=false ∧
  Blk 65 V8 lb #[x0,x1,x2,x3,x4,x5,x6,a,b]∧Only lb W V8∧Keeps 73 W V8∧Keeps 24 W V8:=by
 have q7:Blk 65 (W.setCell ⟨lb,7,none⟩ a) lb #[x0,x1,x2,x3,x4,x5,x6,a,x8]:=Qa4 q 7 a rfl
 have q8:Blk 65 ((W.setCell ⟨lb,7,none⟩ a).setCell ⟨lb,8,none⟩ b) lb #[x0,x1,x2,x3,x4,x5,x6,a,b]:=Qa4 q7 8 b rfl
 have on:=(Only.set lb 7 W a).trans (Only.set lb 8 _ b)
 exact⟨_,_,rfl,rfl,q7.cell 8 rfl,q7.open_ 8,q8,on,Keeps.of_only on q (by decide),Keeps.of_only on q (by decide)⟩
theorem Qmb (d h l v u x t n:Int)(E N O:SL)(La:Option Addr)(ml Lc:Nat)(L:SL)(Y U D:Nat→Nat→SL)(m:ModV)(w:World)(hM:Qad w E L N O Y U D m)(hF:Fits m)(e1:L.a=La)(hml:m.ln=ml) :
  Calls Tryz.prog 9 #[.agg #[I4 d,I4 h,I4 l,I4 v,I4 u,I4 x,I4 t,I4 n,.slice E.a E.n E.c,.slice La ml Lc,.slice N.a N.n N.c,.slice O.a O.n O.c]] w fun e w'=>∃ E' L' N' O':SL,∃ Y' U' D',e=.returned (.agg #[I4 d,I4 h,I4 l,I4 v,I4 u,I4 x,I4 t,I4 n,.slice E'.a E'.n E'.c,.slice L'.a L'.n L'.c,.slice N'.a N'.n N'.c,.slice O'.a O'.n O'.c])∧NewM w.heap.size w' E' L' N' O' Y' U' D' m∧Below w.heap.size w w':=by
 obtain⟨W0,eW⟩:∃ W0,(w.alloc (.cells #[I4 d,I4 h,I4 l,I4 v,I4 u,I4 x,I4 t,I4 n,.slice E.a E.n E.c,.slice La ml Lc,.slice N.a N.n N.c,.slice O.a O.n O.c] 27)).alloc (.cells z12 27)=W0:=⟨_,rfl⟩
 have hW0:W0.heap.size=w.heap.size+1+1:=by rw[←eW];simp
 have hb:Below w.heap.size w W0:=eW ▸ bNw (bNw (bT w) _) _
 have qa:Blk 27 W0 w.heap.size #[I4 d,I4 h,I4 l,I4 v,I4 u,I4 x,I4 t,I4 n,.slice E.a E.n E.c,.slice La ml Lc,.slice N.a N.n N.c,.slice O.a O.n O.c]:=eW ▸ (Blk.new 27 w _).kept (bNw bR _)
 have qb:Blk 27 W0 (w.heap.size+1) z12:=eW ▸ Blk.new_at 27 (w.alloc _) _ _ (by simp)
 have hs0:=hb.size
 -- what each copy of a list of the model finds and leaves
 have step:∀ (W:World) (cs:Array Value),Below w.heap.size w W→Blk 27 W w.heap.size cs→Blk 27 W (w.heap.size+1) z12→∃ A,W.alloc (.cells #[] 73)=A∧Below w.heap.size w A∧Blk 27 A w.heap.size cs∧Blk 27 A (w.heap.size+1) z12∧Blk 73 A W.heap.size #[]∧w.heap.size≤W.heap.size∧Below W.heap.size W A:=fun W cs h1 h2 h3 =>
  ⟨_,rfl,bNw h1 _,h2.kept (bNw bR _),h3.kept (bNw bR _),Blk.new 73 W #[],h1.size,bNw bR _⟩
 have put:∀ (W:World) (cs cs':Array Value) (i:Nat) (v:Value),Below w.heap.size w W→Blk 27 W w.heap.size cs→Blk 27 W (w.heap.size+1) z12→cs.setIfInBounds i v=cs'→∃ V,W.setCell ⟨w.heap.size,i,none⟩ v=V∧Below w.heap.size w V∧Blk 27 V w.heap.size cs'∧Blk 27 V (w.heap.size+1) z12∧Keeps 73 W V:=fun W cs cs' i v h1 h2 h3 e =>
  ⟨_,rfl,h1.setCell nL _,Qa4 h2 i v e,h3.other _ (by simp),Keeps.of_only (Only.set _ _ _ _) h2 (by decide)⟩
 have STEP:=hdn step
 have PUT:=hdn put
 have HM:=hdn hM
 have HF:=hdn hF
 have HL:=hdn (And.intro e1 hml)
 obtain⟨A1,eA1,bA1,pa,pb,pg,pl',pbb⟩:=step W0 _ hb qa qb
 clear step put hM hF e1 hml qa qb hs0 hW0
 obtain⟨a0,a1,a2,a3,a4,a5,a6,a7,a8,a9,a10,a11⟩:=pa.c12
 go_enter Tryz.func9,Tryz.ntmps9
 go_wp2_with (first
  | (at_builtin;refine QaQ rfl (.tmp 10) (.tmp 12) rfl w.heap.size W0.heap.size E m.e rfl rfl (HM.out.below bA1).e (by have:=HF.out.e;omega) pl' pg bA1.size ?_;intro E' w1 h1 tE;obtain⟨V1,eV1,bV1,qa,qb,kV1⟩:=PUT.out w1 _ #[I4 d,I4 h,I4 l,I4 v,I4 u,I4 x,I4 t,I4 n,.slice E'.a E'.n E'.c,.slice La ml Lc,.slice N.a N.n N.c,.slice O.a O.n O.c] 8 (.slice E'.a E'.n E'.c) (bTn bA1 h1) (pa.kept h1) (pb.kept h1) rfl;replace tE:=tE.step kV1;have z8:=(pa.kept h1).cell 8 rfl;have o8:=(pa.kept h1).open_ 8;obtain⟨A2,eA2,bA2,pa2,pb2,pg2,pl2,pbb2⟩:=STEP.out V1 _ bV1 qa qb;replace tE:=tE.below pbb2;clear pa pb pg pl' pbb h1 kV1 qa qb eA1 eW a0 a1 a2 a3 a4 a5 a6 a7 a8 a9 a10 a11;obtain⟨a0,a1,a2,a3,a4,a5,a6,a7,a8,a9,a10,a11⟩:=pa2.c12)
  | (at_builtin;refine QaQ rfl (.tmp 15) (.tmp 17) rfl w.heap.size V1.heap.size N m.nm rfl rfl (HM.out.below bA2).nm (by have:=HF.out.nm;omega) pl2 pg2 bA2.size ?_;intro N' w2 h2 tN;obtain⟨V2,eV2,bV2,qa,qb,kV2⟩:=PUT.out w2 _ #[I4 d,I4 h,I4 l,I4 v,I4 u,I4 x,I4 t,I4 n,.slice E'.a E'.n E'.c,.slice La ml Lc,.slice N'.a N'.n N'.c,.slice O.a O.n O.c] 10 (.slice N'.a N'.n N'.c) (bTn bA2 h2) (pa2.kept h2) (pb2.kept h2) rfl;replace tE:=(tE.below h2).step kV2;replace tN:=tN.step kV2;have z10:=(pa2.kept h2).cell 10 rfl;have o10:=(pa2.kept h2).open_ 10;obtain⟨A3,eA3,bA3,pa3,pb3,pg3,pl3,pbb3⟩:=STEP.out V2 _ bV2 qa qb;replace tE:=tE.below pbb3;replace tN:=tN.below pbb3;clear pa2 pb2 pg2 pl2 pbb2 h2 kV2 qa qb eA2 z8 o8 eV1 a0 a1 a2 a3 a4 a5 a6 a7 a8 a9 a10 a11;obtain⟨a0,a1,a2,a3,a4,a5,a6,a7,a8,a9,a10,a11⟩:=pa3.c12)
  | (at_builtin;refine QaQ rfl (.tmp 20) (.tmp 22) rfl w.heap.size V2.heap.size O m.o rfl rfl (HM.out.below bA3).o (by have:=HF.out.o;omega) pl3 pg3 bA3.size ?_;intro O' w3 h3 tO;obtain⟨V3,eV3,bV3,qa,qb,kV3⟩:=PUT.out w3 _ #[I4 d,I4 h,I4 l,I4 v,I4 u,I4 x,I4 t,I4 n,.slice E'.a E'.n E'.c,.slice La ml Lc,.slice N'.a N'.n N'.c,.slice O'.a O'.n O'.c] 11 (.slice O'.a O'.n O'.c) (bTn bA3 h3) (pa3.kept h3) (pb3.kept h3) rfl;replace tE:=(tE.below h3).step kV3;replace tN:=(tN.below h3).step kV3;replace tO:=tO.step kV3;have z11:=(pa3.kept h3).cell 11 rfl;have o11:=(pa3.kept h3).open_ 11;clear pa3 pb3 pg3 pl3 pbb3 h3 kV3 eA3 z10 o10 eV2 a0 a1 a2 a3 a4 a5 a6 a7 a8 a9 a10 a11;obtain⟨a0,a1,a2,a3,a4,a5,a6,a7,a8,a9,a10,a11⟩:=qa.c12))
 have s3:=bV3.size
 have HV:=hdn (And.intro bV3 (And.intro qa (And.intro qb (And.intro tE (And.intro tN tO)))))
 have Hml:ml≤20:=by have:=HF.out.ln;have:=HL.out.2;omega
 clear a0 a1 a2 a3 a4 a5 a6 a7 a8 a9 a10 a11 z11 o11 eV3 bA1 bV1 bA2 bV2 bA3 qa qb tE tN tO bV3 hb STEP PUT
 go_loopw [3,4,5,6,7,8,9] (fun v3 i _ _ _ _ _ wr=>∃ k:Nat,k≤ml∧i=I4 k∧Below V3.heap.size V3 wr∧∃ Y' U' D':Nat→Nat→SL,TL V3.heap.size wr v3 k Y' U' D' m) (fun _ i _ _ _ _ _ _=>ml-(intOf i).toNat)
 case atStart=>exact⟨0,Nat.zero_le _,rfl,Below.refl _ _,fun _ _=>SL.nought,fun _ _=>SL.nought,fun _ _=>SL.nought,TL.nil _ _ _ _ _ _⟩
 case round =>
  obtain⟨k,hk,rfl,hbr,Y',U',D',tL⟩:=hrel
  obtain⟨WR,eWR⟩:∃ WR,WR=wr:=⟨_,rfl⟩
  subst eWR
  obtain⟨bV3,qa,qb,tE,tN,tO⟩:=HV.out
  have hbw:=bTn bV3 hbr
  obtain⟨a0,a1,a2,a3,a4,a5,a6,a7,a8,a9,a10,a11⟩:=(qa.kept hbr).c12
  by_cases hlt:k<ml
  ·have hMr:=HM.out.below hbw
   have hkm:k<m.ln:=by rw[HL.out.2];exact hlt
   obtain⟨x0,hx0⟩:=hMr.some_ (by omega)
   obtain rfl:La=some x0:=HL.out.1.symm.trans hx0
   have la:=hMr.lay k hkm
   obtain⟨P,eP,p0,p1,p2,p3,p4,p5,p6,p7,p8⟩:=Qgb (fun j hj=>hMr.cell x0 hx0 k hkm j hj)
   have hlt':(k:Int)<(ml:Int):=by omega
   have srs:=hbr.size
   have HB:=hdn (And.intro hbw hbr)
   have HLA:=hdn la
   have HT:=hdn tL
   have HS:=hdn srs
   clear hMr hbw hbr la tL bV3 qa qb tE tN tO srs
   go_wp2
   have q5:=Blk.new 65 WR #[.slice (Y k 0).a (Y k 0).n (Y k 0).c,.slice (Y k 1).a (Y k 1).n (Y k 1).c,.slice (Y k 2).a (Y k 2).n (Y k 2).c,.slice (Y k 3).a (Y k 3).n (Y k 3).c,.slice (Y k 4).a (Y k 4).n (Y k 4).c,.slice (Y k 5).a (Y k 5).n (Y k 5).c,.slice (Y k 6).a (Y k 6).n (Y k 6).c,.slice (Y k 7).a (Y k 7).n (Y k 7).c,.slice (Y k 8).a (Y k 8).n (Y k 8).c]
   obtain⟨W1,e1⟩:∃ W1,WR.alloc (.cells #[.slice (Y k 0).a (Y k 0).n (Y k 0).c,.slice (Y k 1).a (Y k 1).n (Y k 1).c,.slice (Y k 2).a (Y k 2).n (Y k 2).c,.slice (Y k 3).a (Y k 3).n (Y k 3).c,.slice (Y k 4).a (Y k 4).n (Y k 4).c,.slice (Y k 5).a (Y k 5).n (Y k 5).c,.slice (Y k 6).a (Y k 6).n (Y k 6).c,.slice (Y k 7).a (Y k 7).n (Y k 7).c,.slice (Y k 8).a (Y k 8).n (Y k 8).c] 65)=W1:=⟨_,rfl⟩
   have bW1:Below WR.heap.size WR W1:=e1 ▸ bNw bR _
   rw[e1] at q5 ⊢
   have la1:=HLA.out.below bW1
   have far:∀ j,j<7→∀ x,(Y k j).a=some x→0<(Y k j).n→x.block≠WR.heap.size:=fun j hj x hx h0=>by
    have c:=(HLA.out.f j hj).reads.cell x hx 0 h0
    have:=World.block_lt_of_cell? _ _ c
    simp[Addr.add] at this
    omega
   clear e1 p0 p1 p2 p3 p4 p5 p6 p7 p8 a0 a1 a2 a3 a4 a5 a6 a7 a8 a9 a10 a11
   refine Qdf 3 37 0 WR.heap.size (Y k) (m.f k) (fun f=>(Y k f).v) #[.slice (Y k 0).a (Y k 0).n (Y k 0).c,.slice (Y k 1).a (Y k 1).n (Y k 1).c,.slice (Y k 2).a (Y k 2).n (Y k 2).c,.slice (Y k 3).a (Y k 3).n (Y k 3).c,.slice (Y k 4).a (Y k 4).n (Y k 4).c,.slice (Y k 5).a (Y k 5).n (Y k 5).c,.slice (Y k 6).a (Y k 6).n (Y k 6).c,.slice (Y k 7).a (Y k 7).n (Y k 7).c,.slice (Y k 8).a (Y k 8).n (Y k 8).c] (by kernel_rfl) rfl (fun j hj=>by rcases l3 (show j<3 by omega) with rfl|rfl|rfl<;>exact⟨⟨_,rfl,rfl,rfl,rfl,by kernel_rfl⟩,⟨_,rfl,rfl,rfl,rfl,by kernel_rfl⟩,⟨_,rfl,rfl,rfl,rfl,by kernel_rfl⟩,⟨_,rfl,rfl,rfl,rfl,by kernel_rfl⟩,⟨_,rfl,rfl,rfl,rfl,by kernel_rfl⟩,⟨_,rfl,rfl,rfl,rfl,by kernel_rfl⟩⟩) rfl (by decide) (Nat.le_of_ble_eq_true rfl) (by decide) q5 rfl
    (fun f hf=>by rcases l9 (show f<9 by omega) with rfl|rfl|rfl|rfl|rfl|rfl|rfl|rfl|rfl<;>rfl)
    (fun j hj=>⟨by rw[Nat.zero_add],la1.f j (by omega),by have:=HF.out.f k hkm j (by omega);omega,far j (by omega)⟩) ?_
   intro a W2 S cs hs hd hkp honly hq hcz hcell hts
   obtain rfl:=arr9 hcz hcell
   have q9:Blk 65 W2 WR.heap.size #[.slice (S 0).a (S 0).n (S 0).c,.slice (S 1).a (S 1).n (S 1).c,.slice (S 2).a (S 2).n (S 2).c,.slice (Y k 3).a (Y k 3).n (Y k 3).c,.slice (Y k 4).a (Y k 4).n (Y k 4).c,.slice (Y k 5).a (Y k 5).n (Y k 5).c,.slice (Y k 6).a (Y k 6).n (Y k 6).c,.slice (Y k 7).a (Y k 7).n (Y k 7).c,.slice (Y k 8).a (Y k 8).n (Y k 8).c]:=hq
   have bW2:Below WR.heap.size WR W2:=Only.below bW1 nL bW1.size honly
   obtain⟨f,ef,ep⟩:=fPy [37,38,39,40,41,42,43,44,45,46,47,48,49,50,51] hs hd (fun s h=>hkp s (by simp at h;omega))
   simp only[List.foldl,Act.put,List.setIfInBounds_toArray,List.set_cons_succ,List.set_cons_zero] at ep
   clear hs hd hkp hq hcz hcell ef
   subst ep
   have la2:=HLA.out.below bW2
   have t0:=(hts 0 (by decide)).le bW1.size
   have t1:=(hts 1 (by decide)).le bW1.size
   have t2:=(hts 2 (by decide)).le bW1.size
   clear la1 hts honly q5 bW1
   go_wp2
   refine Qdf 4 52 3 WR.heap.size (fun j=>Y k (3+j)) (fun j=>m.f k (3+j)) (fun f=>if f<3 then (S f).v else (Y k f).v) #[.slice (S 0).a (S 0).n (S 0).c,.slice (S 1).a (S 1).n (S 1).c,.slice (S 2).a (S 2).n (S 2).c,.slice (Y k 3).a (Y k 3).n (Y k 3).c,.slice (Y k 4).a (Y k 4).n (Y k 4).c,.slice (Y k 5).a (Y k 5).n (Y k 5).c,.slice (Y k 6).a (Y k 6).n (Y k 6).c,.slice (Y k 7).a (Y k 7).n (Y k 7).c,.slice (Y k 8).a (Y k 8).n (Y k 8).c] (by kernel_rfl) rfl (fun j hj=>by rcases l4 (show j<4 by omega) with rfl|rfl|rfl|rfl<;>exact⟨⟨_,rfl,rfl,rfl,rfl,by kernel_rfl⟩,⟨_,rfl,rfl,rfl,rfl,by kernel_rfl⟩,⟨_,rfl,rfl,rfl,rfl,by kernel_rfl⟩,⟨_,rfl,rfl,rfl,rfl,by kernel_rfl⟩,⟨_,rfl,rfl,rfl,rfl,by kernel_rfl⟩,⟨_,rfl,rfl,rfl,rfl,by kernel_rfl⟩⟩) rfl (by decide) (Nat.le_of_ble_eq_true rfl) (by decide) q9 rfl
    (fun f hf=>by rcases l9 (show f<9 by omega) with rfl|rfl|rfl|rfl|rfl|rfl|rfl|rfl|rfl<;>rfl)
    (fun j hj=>⟨if_neg (by omega),la2.f (3+j) (by omega),by have:=HF.out.f k hkm (3+j) (by omega);omega,far (3+j) (by omega)⟩) ?_
   intro a W3 T cs hs hd hkp honly hq hcz hcell hts
   obtain rfl:=arr9 hcz hcell
   have q10:Blk 65 W3 WR.heap.size #[.slice (S 0).a (S 0).n (S 0).c,.slice (S 1).a (S 1).n (S 1).c,.slice (S 2).a (S 2).n (S 2).c,.slice (T 0).a (T 0).n (T 0).c,.slice (T 1).a (T 1).n (T 1).c,.slice (T 2).a (T 2).n (T 2).c,.slice (T 3).a (T 3).n (T 3).c,.slice (Y k 7).a (Y k 7).n (Y k 7).c,.slice (Y k 8).a (Y k 8).n (Y k 8).c]:=hq
   have bW3:Below WR.heap.size WR W3:=Only.below bW2 nL bW2.size honly
   obtain⟨f,ef,ep⟩:=fPy [52,53,54,55,56,57,58,59,60,61,62,63,64,65,66,67,68,69,70,71] hs hd (fun s h=>hkp s (by simp at h;omega))
   simp only[List.foldl,Act.put,List.setIfInBounds_toArray,List.set_cons_succ,List.set_cons_zero] at ep
   have kp:Keeps 73 W2 W3:=Keeps.of_only honly q9 (by decide)
   clear hs hd hkp hq hcz hcell ef
   subst ep
   replace t0:=t0.step kp
   replace t1:=t1.step kp
   replace t2:=t2.step kp
   have t3:=(hts 0 (by decide)).le bW2.size
   have t4:=(hts 1 (by decide)).le bW2.size
   have t5:=(hts 2 (by decide)).le bW2.size
   have t6:=(hts 3 (by decide)).le bW2.size
   have la3:=HLA.out.below bW3
   clear la2 hts honly q9 bW2 kp far
   obtain⟨lb,elb⟩:∃ lb,WR.heap.size=lb:=⟨_,rfl⟩
   rw[elb] at q10 ⊢
   have ELB:=hdn elb
   clear elb
   go_wp2
   have lenu:=la3.u.len
   obtain⟨un,eun⟩:∃ z,m.un k=z:=⟨_,rfl⟩
   go_loopw [6,8] (fun v i wr=>∃ j:Nat,j≤un∧i=I4 j∧Below W3.heap.size W3 wr∧∃ R:Nat→SL,TG W3.heap.size wr v j R (m.u k)) (fun _ i _=>un-(intOf i).toNat)
   case atStart=>exact⟨0,Nat.zero_le _,rfl,Below.refl _ _,fun _=>SL.nought,TG.nil _ _ _ _⟩
   case round =>
    obtain⟨j,hj,rfl,hb2,Ru,tG⟩:=hrel
    have sB:=hb2.size
    by_cases hlt2:j<un
    ·have la:=la3.below hb2
     obtain⟨x7,hx7⟩:=la.u.some_ (by omega)
     have q:=q10.kept hb2
     rw[hx7,lenu,eun] at q
     have hlt2':(j:Int)<(un:Int):=by omega
     have hun24:=HF.out.un k hkm
     rw[eun] at hun24
     have hun63:un≤9223372036854775807:=by omega
     have cf:=q.cell 7 rfl
     obtain⟨A,eA⟩:∃ A,wr.alloc (.cells #[] 73)=A:=⟨_,rfl⟩
     have bA:Below wr.heap.size wr A:=eA ▸ bNw bR _
     have gA:Blk 73 A wr.heap.size #[]:=eA ▸ Blk.new 73 wr #[]
     have cfA:=(q.kept bA).cell 7 rfl
     have cU:=(la.u.below bA).cell x7 hx7 j (by omega)
     have cU':A.cell? (x7.add j)=some (.slice (U k j).a (U k j).n (U k j).c):=cU
     have isU:=(la.u.below bA).row j (by omega)
     have fU:=HF.out.u k hkm j (by omega)
     clear cU la q hx7 lenu eun
     go_wp2_with (first
      | (at_builtin;refine QaQ rfl (.tmp 80) (.tmp 85) rfl W3.heap.size wr.heap.size (U k j) (m.u k j) rfl rfl isU (by omega) sB gA (Nat.le_trans sB bA.size) ?_;intro s' w4 h4 ts4;obtain⟨A2,eA2⟩:∃ A2,w4.alloc (.cells #[.slice s'.a s'.n s'.c] 24)=A2:=⟨_,rfl⟩;have bA2:Below w4.heap.size w4 A2:=eA2 ▸ bNw bR _;have gA2:Blk 24 A2 w4.heap.size #[.slice s'.a s'.n s'.c]:=eA2 ▸ Blk.new 24 w4 _;have cA2:A2.cell? ⟨w4.heap.size,0,none⟩=some s'.v:=gA2.cell 0 rfl;have bb:=bTn (bTn bA h4) bA2;have tG2:=tG.below (B':=0) bb;replace ts4:=ts4.below bA2;clear bA gA cfA cU' isU fU eA h4 bA2 gA2)
      | (at_builtin;refine Qee rfl (.tmp 79) (.tmp 87) rfl W3.heap.size j _ Ru (m.u k) s' w4.heap.size 1 rfl rfl tG2 cA2 ts4 (by omega) (Nat.le_trans sB bb.size) ?_;intro v' w5 hb5 _ _ tG5;have hbE:=(bTn hb2 bb).trans hb5;clear hb5 bb tG2 cA2 ts4 eA2))
     go_roundw
     case rel=>exact⟨j+1,by omega,by go_num,hbE,_,tG5⟩
     case measure=>simp[intOf];omega
    ·obtain rfl:un=j:=by omega
     have bWu:=hb2
     have qu:=q10.kept hb2
     have cf:=qu.cell 7 rfl
     rw[lenu,eun] at cf
     have hun24:=HF.out.un k hkm
     rw[eun] at hun24
     have hun63:un≤9223372036854775807:=by omega
     have tGu:=tG
     clear tG
     rw[lenu,eun] at qu
     have la4:=la3.below hb2
     obtain⟨W4,eW4⟩:∃ W4,W4=wr:=⟨_,rfl⟩
     subst eW4
     have HX:=hdn (And.intro lenu (And.intro eun tGu))
     clear lenu eun tGu hb2 hj hlt2 sB hun24 hun63 la3
     go_wp2
     have lend:=la4.d.len
     obtain⟨dn,edn⟩:∃ z,m.dn k=z:=⟨_,rfl⟩
     go_loopw [7,9] (fun v i wr=>∃ j:Nat,j≤dn∧i=I4 j∧Below W4.heap.size W4 wr∧∃ R:Nat→SL,TG W4.heap.size wr v j R (m.d k)) (fun _ i _=>dn-(intOf i).toNat)
     case atStart=>exact⟨0,Nat.zero_le _,rfl,Below.refl _ _,fun _=>SL.nought,TG.nil _ _ _ _⟩
     case round =>
      obtain⟨j,hj,rfl,hb2,Rd,tG⟩:=hrel
      have sB:=hb2.size
      by_cases hlt2:j<dn
      ·have la:=la4.below hb2
       obtain⟨x7,hx7⟩:=la.d.some_ (by omega)
       have q:=qu.kept hb2
       rw[hx7,lend,edn] at q
       have hlt2':(j:Int)<(dn:Int):=by omega
       have hun24:=HF.out.dn k hkm
       rw[edn] at hun24
       have hun63:dn≤9223372036854775807:=by omega
       have cf:=q.cell 8 rfl
       obtain⟨A,eA⟩:∃ A,wr.alloc (.cells #[] 73)=A:=⟨_,rfl⟩
       have bA:Below wr.heap.size wr A:=eA ▸ bNw bR _
       have gA:Blk 73 A wr.heap.size #[]:=eA ▸ Blk.new 73 wr #[]
       have cfA:=(q.kept bA).cell 8 rfl
       have cU:=(la.d.below bA).cell x7 hx7 j (by omega)
       have cU':A.cell? (x7.add j)=some (.slice (D k j).a (D k j).n (D k j).c):=cU
       have isU:=(la.d.below bA).row j (by omega)
       have fU:=HF.out.d k hkm j (by omega)
       clear cU la q hx7 lend edn
       go_wp2_with (first
        | (at_builtin;refine QaQ rfl (.tmp 97) (.tmp 102) rfl W4.heap.size wr.heap.size (D k j) (m.d k j) rfl rfl isU (by omega) sB gA (Nat.le_trans sB bA.size) ?_;intro s' w4 h4 ts4;obtain⟨A2,eA2⟩:∃ A2,w4.alloc (.cells #[.slice s'.a s'.n s'.c] 24)=A2:=⟨_,rfl⟩;have bA2:Below w4.heap.size w4 A2:=eA2 ▸ bNw bR _;have gA2:Blk 24 A2 w4.heap.size #[.slice s'.a s'.n s'.c]:=eA2 ▸ Blk.new 24 w4 _;have cA2:A2.cell? ⟨w4.heap.size,0,none⟩=some s'.v:=gA2.cell 0 rfl;have bb:=bTn (bTn bA h4) bA2;have tG2:=tG.below (B':=0) bb;replace ts4:=ts4.below bA2;clear bA gA cfA cU' isU fU eA h4 bA2 gA2)
        | (at_builtin;refine Qee rfl (.tmp 96) (.tmp 104) rfl W4.heap.size j _ Rd (m.d k) s' w4.heap.size 1 rfl rfl tG2 cA2 ts4 (by omega) (Nat.le_trans sB bb.size) ?_;intro v' w5 hb5 _ _ tG5;have hbE:=(bTn hb2 bb).trans hb5;clear hb5 bb tG2 cA2 ts4 eA2))
       go_roundw
       case rel=>exact⟨j+1,by omega,by go_num,hbE,_,tG5⟩
       case measure=>simp[intOf];omega
      ·obtain rfl:dn=j:=by omega
       have bWd:=hb2
       have qd:=qu.kept hb2
       have cf:=qd.cell 8 rfl
       rw[lend,edn] at cf
       have hun24:=HF.out.dn k hkm
       rw[edn] at hun24
       have hun63:dn≤9223372036854775807:=by omega
       have tGd:=tG
       clear tG
       obtain⟨W5,eW5⟩:∃ W5,W5=wr:=⟨_,rfl⟩
       subst eW5
       obtain⟨lenu,eun,tGu⟩:=HX.out
       obtain⟨sU,eU,-⟩:=(tGu.below (B':=0) bWd).new
       obtain⟨sD,eD,-⟩:=tGd.new
       have eU2:_=Value.slice sU.a sU.n sU.c:=eU
       have eD2:_=Value.slice sD.a sD.n sD.c:=eD
       subst eU2
       subst eD2
       obtain⟨V7,V8,eV7,eV8,z8,o8,q8,on8,k46,k26⟩:=Qi4 qd (.slice sU.a sU.n sU.c) (.slice sD.a sD.n sD.c)
       have z7:=qd.cell 7 rfl
       have o7:=qd.open_ 7
       obtain⟨A3,eA3⟩:∃ A,V8.alloc (.cells #[.slice (S 0).a (S 0).n (S 0).c,.slice (S 1).a (S 1).n (S 1).c,.slice (S 2).a (S 2).n (S 2).c,.slice (T 0).a (T 0).n (T 0).c,.slice (T 1).a (T 1).n (T 1).c,.slice (T 2).a (T 2).n (T 2).c,.slice (T 3).a (T 3).n (T 3).c,.slice sU.a sU.n sU.c,.slice sD.a sD.n sD.c] 65)=A:=⟨_,rfl⟩
       have bA3:Below V8.heap.size V8 A3:=eA3 ▸ bNw bR _
       have gA3:Blk 65 A3 V8.heap.size #[.slice (S 0).a (S 0).n (S 0).c,.slice (S 1).a (S 1).n (S 1).c,.slice (S 2).a (S 2).n (S 2).c,.slice (T 0).a (T 0).n (T 0).c,.slice (T 1).a (T 1).n (T 1).c,.slice (T 2).a (T 2).n (T 2).c,.slice (T 3).a (T 3).n (T 3).c,.slice sU.a sU.n sU.c,.slice sD.a sD.n sD.c]:=eA3 ▸ Blk.new 65 V8 _
       have b5:Below lb WR W5:=by rw[←ELB.out];exact bTn (bTn bW3 bWu) bWd
       have b8:Below lb WR V8:=by
        refine Only.below b5 nL ?_ on8
        rw[←ELB.out];exact (bTn (bTn bW3 bWu) bWd).size
       have bA:Below WR.heap.size WR A3:=bTn (by rw[ELB.out];exact b8) bA3
       have K46:Keeps 73 W3 A3:=((Keeps.of_below (bTn bWu bWd)).trans k46).trans (Keeps.of_below bA3)
       have tU:=(((tGu.below (B':=0) bWd).step k46 k26).below (B':=0) bA3).le (Nat.le_trans HS.out bW3.size)
       have tD:=((tGd.step k46 k26).below (B':=0) bA3).le (Nat.le_trans (Nat.le_trans HS.out bW3.size) bWu.size)
       have tL:=HT.out.below bA
       have s0:=(t0.step K46).le HS.out
       have s1:=(t1.step K46).le HS.out
       have s2:=(t2.step K46).le HS.out
       have s3':=(t3.step K46).le HS.out
       have s4:=(t4.step K46).le HS.out
       have s5:=(t5.step K46).le HS.out
       have s6:=(t6.step K46).le HS.out
       rw[←eun] at tU
       rw[←edn] at tD
       have hY:TY V3.heap.size A3 (nine (S 0) (S 1) (S 2) (T 0) (T 1) (T 2) (T 3) sU sD) Ru Rd (m.f k) (m.un k) (m.dn k) (m.u k) (m.d k):=⟨fun j hj=>by rcases l7 (show j<7 by omega) with rfl|rfl|rfl|rfl|rfl|rfl|rfl<;>assumption,tU,tD⟩
       have gA:Blk 65 A3 V8.heap.size ((List.range 9).map fun r=>(nine (S 0) (S 1) (S 2) (T 0) (T 1) (T 2) (T 3) sU sD r).v).toArray:=gA3
       have c0:=q8.cell 0 rfl
       have c1:=q8.cell 1 rfl
       have c2:=q8.cell 2 rfl
       have c3:=q8.cell 3 rfl
       have c4:=q8.cell 4 rfl
       have c5:=q8.cell 5 rfl
       have c6:=q8.cell 6 rfl
       have c7:=q8.cell 7 rfl
       have c8:=q8.cell 8 rfl
       have hbE:=bTn HB.out.2 bA
       clear tU tD s0 s1 s2 s3' s4 s5 s6 t0 t1 t2 t3 t4 t5 t6 tGu tGd eU eD b5 b8 bA K46 k46 k26 on8 bA3 gA3 lenu eun lend edn HX hlt2 hj hun24 la4 bWu bWd bW3 qu
       go_wp2_with (first
        | (at_builtin;refine Qgc rfl (.tmp 110) (.tmp 112) rfl V3.heap.size k _ Y' U' D' m _ Ru Rd V8.heap.size 1 rfl rfl tL gA hY (by omega) hbE.size ?_;intro v' w6 hb6 tL6;have hbF:=hbE.trans hb6;clear hb6 tL gA hY hbE))
       go_roundw
       case rel=>exact⟨k+1,by omega,by go_num,hbF,_,_,_,tL6⟩
       case measure=>simp[intOf];omega
  ·have ek:k=ml:=by omega
   have tL':=tL.le bV3.size
   rw[show k=m.ln from ek.trans HL.out.2.symm] at tL'
   obtain⟨L',eL,-⟩:=tL'.new ((tE.below hbr)) (tN.below hbr) (tO.below hbr)
   have eL2:_=Value.slice L'.a L'.n L'.c:=eL
   subst eL2
   have qm:=qa.kept hbr
   have qr:=qb.kept hbr
   have z9:=qm.cell 9 rfl
   have o9:=qm.open_ 9
   obtain⟨V9,eV9⟩:∃ V,WR.setCell ⟨w.heap.size,9,none⟩ (.slice L'.a L'.n L'.c)=V:=⟨_,rfl⟩
   have on9:Only w.heap.size WR V9:=eV9 ▸ Only.set _ _ _ _
   have q9:Blk 27 V9 w.heap.size #[I4 d,I4 h,I4 l,I4 v,I4 u,I4 x,I4 t,I4 n,.slice E'.a E'.n E'.c,.slice L'.a L'.n L'.c,.slice N'.a N'.n N'.c,.slice O'.a O'.n O'.c]:=eV9 ▸ Qa4 qm 9 _ rfl
   have qr9:Blk 27 V9 (w.heap.size+1) z12:=eV9 ▸ qr.other _ (by simp)
   have FIN:Hid (∀ W6,Only (w.heap.size+1) V9 W6→NewM w.heap.size W6 E' L' N' O' Y' U' D' m∧Below w.heap.size w W6):=fun W6 only=>by
    have K:∀ t,t≠27→Keeps t WR W6:=fun t ht=>(Keeps.of_only on9 qm ht).trans (Keeps.of_only only qr9 ht)
    have tL6:TL w.heap.size W6 (.slice L'.a L'.n L'.c) m.ln Y' U' D' m:=⟨(K 65 (by decide)).own tL'.own,fun i hi=>(tL'.lay i hi).step (K 73 (by decide)) (K 24 (by decide))⟩
    obtain⟨L2,eL2,hN⟩:=tL6.new ((tE.below hbr).step (K 73 (by decide))) ((tN.below hbr).step (K 73 (by decide))) ((tO.below hbr).step (K 73 (by decide)))
    obtain rfl:L'=L2:=SL.v_inj eL2
    have b9:=Only.below hbw nL hbw.size on9
    exact⟨hN,Only.below b9 (by omega) b9.size only⟩
   obtain⟨c0,c1,c2,c3,c4,c5,c6,c7,c8,c9,c10,c11⟩:=q9.c12
   obtain⟨r0,r1,r2,r3,r4,r5,r6,r7,r8,r9,r10,r11⟩:=qr9.c12
   obtain⟨f0,f1,f2,f3,f4,f5,f6,f7,f8,f9,f10,f11⟩:=qr9.o12
   have hge:¬((k:Int)<(ml:Int)):=by omega
   have hge':decide ((k:Int)<(ml:Int))=false:=by simp;omega
   clear tL tL' eL qm qr qa qb bV3 tE tN tO hbr hbw on9 q9 ek
   go_wp2
   obtain⟨W6,eW6,q6,only,hz⟩:=Qe8 qr9 (I4 d) (I4 h) (I4 l) (I4 v) (I4 u) (I4 x) (I4 t) (I4 n) (.slice E'.a E'.n E'.c) (.slice L'.a L'.n L'.c) (.slice N'.a N'.n N'.c) (.slice O'.a O'.n O'.c)
   rw[eW6]
   obtain⟨g1,g2⟩:=FIN.out W6 only
   refine bodyPost_ret (v:=.agg #[I4 d,I4 h,I4 l,I4 v,I4 u,I4 x,I4 t,I4 n,.slice E'.a E'.n E'.c,.slice L'.a L'.n L'.c,.slice N'.a N'.n N'.c,.slice O'.a O'.n O'.c]) ?_ rfl ⟨E',L',N',O',rfl,⟨Y',U',D',g1⟩,g2⟩
   obtain⟨y0,y1,y2,y3,y4,y5,y6,y7,y8,y9,y10,y11⟩:=q6.c12
   simp[results,Tryz.results9,go_sem,y0,y1,y2,y3,y4,y5,y6,y7,y8,y9,y10,y11]
theorem Qd8 (d h l v u x t n:Int)(E L N O:SL)(Y U D:Nat→Nat→SL)(m:ModV)(w:World)(hM:Qad w E L N O Y U D m)(hF:Fits m) :
  Calls Tryz.prog 9 #[.agg #[I4 d,I4 h,I4 l,I4 v,I4 u,I4 x,I4 t,I4 n,.slice E.a E.n E.c,.slice L.a L.n L.c,.slice N.a N.n N.c,.slice O.a O.n O.c]] w fun e w'=>∃ E' L' N' O':SL,∃ Y' U' D',e=.returned (.agg #[I4 d,I4 h,I4 l,I4 v,I4 u,I4 x,I4 t,I4 n,.slice E'.a E'.n E'.c,.slice L'.a L'.n L'.c,.slice N'.a N'.n N'.c,.slice O'.a O'.n O'.c])∧NewM w.heap.size w' E' L' N' O' Y' U' D' m∧Bw w w':=by
 have:=Qmb d h l v u x t n E N O L.a m.ln L.c L Y U D m w hM hF rfl rfl
 rw[hM.len]
 exact this
theorem QgW {w:World}{B n c:Nat}{a:Option Addr}{nn:Nat}{xs:List Value}(h:w.ownsRow B 73 1 (.slice a n c) nn xs):∀ y,a=some y→∃ cur fz,w.heap[y.block]? = some (Obj.cells cur 73 fz):=by
 intro y hy
 rcases h.2 with⟨h1,_⟩|⟨g,cap,cur,h1,_,h2,_⟩
 ·rw[hy] at h1;simp at h1
 ·simp only[Value.slice.injEq] at h1
  have e:y=⟨g,0,none⟩:=Option.some.inj (hy.symm.trans h1.1)
  rw[e]
  exact⟨cur,(0,0),h2⟩
theorem Qjt (cb k n c:Nat)(x:Addr)(zs:List Int)(W:World)(hq:Blk 113 W cb #[.slice (some x) n c])(hr:Reads .i8 W (some x) n zs)(hk:k≤n)(hc:n≤c)(hn:n≤100000) :
  Calls Tryz.prog 81 #[Pt cb,I4 (k:Int)] W fun e W'=>∃ (s:SL) (y:Addr),e=.returned (s.w)∧s.n=k∧TS W.heap.size W' s (zs.take k) ∧
   Blk 113 W' cb #[.slice (some y) (n-k) (c-k)]∧y.block=x.block∧Reads .i8 W (some y) (n-k) (zs.drop k)∧n-k≤c-k∧Only cb W W':=by
 obtain⟨i0,hi,hz0,hz1,hz2⟩:=i46
 have c0:W.cell? ⟨cb,0,none⟩=some (.slice (some x) n c):=hq.cell 0 rfl
 have hkc:(k:Int)≤(c:Int):=by omega
 have hkn:(k:Int)≤(n:Int):=by omega
 have k0:(0:Int)≤(k:Int):=by omega
 obtain⟨y,ey,yb,ry⟩:∃ y:Addr,(if c=k then some x else some (x.add k))=some y∧y.block=x.block∧Reads .i8 W (some y) (n-k) (zs.drop k):=by
  by_cases e:c=k
  ·refine⟨x,by rw[if_pos e],rfl,?_⟩
   have hl:=hr.len
   rw[show n-k=0 by omega,List.drop_eq_nil_of_le (by omega)]
   exact⟨rfl,by omega,fun i=>by simpa using Qc1 .i8,fun h=>by omega,fun _ _ i hi=>by omega⟩
  ·refine⟨x.add k,by rw[if_neg e],by unfold Addr.add;split<;>rfl,?_⟩
   have:=hr.cut k (n-k) (by omega)
   rwa [List.take_of_length_le (by rw[List.length_drop,hr.len];omega)] at this
 have hcb:=hq.lt
 have key:∀ W1,Bw W W1→W1.cell? ⟨cb,0,none⟩=some (.slice (some x) n c)∧W1.frozen? ⟨cb,0,none⟩=false∧Hid (Blk 113 W1 cb #[.slice (some x) n c]):=fun W1 hb=>⟨(hq.kept hb).cell 0 rfl,(hq.kept hb).open_ 0,hq.kept hb⟩
 have rt:Reads .i8 W (some x) k (zs.take k):=by have:=hr.cut 0 k (by omega);simpa [Addr.add] using this
 have rt':Reads .i8 (W.alloc (.cells #[] 73)) (some x) k (zs.take k):=rt.below (bNw bR _)
 have c0':(W.alloc (.cells #[] 73)).cell? ⟨cb,0,none⟩=some (.slice (some x) n c):=(hq.kept (bNw bR _)).cell 0 rfl
 have own0:(W.alloc (.cells #[] 73)).ownsRow W.heap.size 73 1 (.slice (some ⟨W.heap.size,0,none⟩) 0 0) 0 []:=World.ownsRow_lit (base:=W.heap.size) (size:=1) W #[] 0 nL (by unfold maxLen;omega) (by simp)
 have HK:=hdn key
 clear key hq
 go_enter Tryz.func81,Tryz.ntmps81
 go_wp2_with (first
  | (at_builtin;refine Qav rfl _ _ 24 rfl W.heap.size 73 i0 (.int .i8 0) 1 Tryz.underlying24 hi hz0 hz1 hz2 rfl _ 0 [] rfl own0 .i8 (some x) k c (zs.take k) rfl rt' (by intro h;cases h) (by unfold maxLen;omega) (by omega) (by simp) ?_;intro v1 W1 ho hg;obtain⟨b,cb1,rfl,r1,hb,f1,f2,f3⟩:=Qnv ho hg rt;have ty:=QgW ho;obtain⟨g1,g2,g3⟩:=HK.out W1 hb;clear ho hg own0 c0'))
 go_ret
 refine⟨⟨b,k,cb1⟩,y,rfl,rfl,?_,g3.out.set 0 _,yb,ry,by omega,(Only.of_below hb).trans (Only.set _ _ _ _)⟩
 have base:TS W.heap.size W1 ⟨b,k,cb1⟩ (zs.take k):=⟨⟨r1,f1,f2⟩,fun z hz=>⟨f3 z hz,ty z hz⟩⟩
 exact base.step (Keeps.of_only (Only.set cb 0 W1 _) g3.out (by decide))
def QaH (w:World)(xb sb N:Nat)(ws:List Int)(T:Nat):Prop:=∃ (y:Addr) (c:Nat),Blk 113 w xb #[.slice (some y) (N-T) c]∧y.block=sb∧Reads .i8 w (some y) (N-T) (ws.drop T)∧N-T≤c
theorem QaH.below {w w':World}{xb sb N:Nat}{ws:List Int}{T:Nat}(h:QaH w xb sb N ws T)(hb:Bw w w'):QaH w' xb sb N ws T:=by
 obtain⟨y,c,q,e,r,l⟩:=h
 exact⟨y,c,q.kept hb,e,r.below hb,l⟩
theorem QaH.only {w w':World}{xb sb N g:Nat}{ws:List Int}{T:Nat}(h:QaH w xb sb N ws T)(o:Only g w w')(h1:xb≠g)(h2:sb≠g):QaH w' xb sb N ws T:=by
 obtain⟨y,c,q,e,r,l⟩:=h
 exact⟨y,c,(o.block xb q.lt (fun k=>h1 (by simpa using k))).trans q,e,r.other o (fun x hx _=>by obtain rfl:=Option.some.inj hx;omega),l⟩
theorem Qc9 {W:World}{xb sb N:Nat}{ws:List Int}{cnt:Nat→Nat}{k:Nat}(hc:QaH W xb sb N ws (offs cnt k))(hfit:offs cnt (k+1)≤N)(hN:N≤100000)(hsb:sb≠xb) :
  Calls Tryz.prog 81 #[Pt xb,I4 (cnt k:Int)] W fun e W'=>∃ s:SL,e=.returned (s.w)∧TS W.heap.size W' s (seg cnt ws k)∧QaH W' xb sb N ws (offs cnt (k+1))∧Only xb W W':=by
 obtain⟨y,c,q,e,r,l⟩:=hc
 have e1:offs cnt (k+1)=offs cnt k+cnt k:=rfl
 refine (Qjt xb (cnt k) (N-offs cnt k) c y (ws.drop (offs cnt k)) W q r (by omega) l (by omega)).mono fun e' W' hh=>?_
 obtain⟨s,z,h1,h2,h3,h4,h5,h6,h7,h8⟩:=hh
 refine⟨s,h1,h3,⟨z,c-cnt k,?_,h5.trans e,?_,?_⟩,h8⟩
 ·rw[e1,show N-(offs cnt k+cnt k)=N-offs cnt k-cnt k by omega]
  exact h4
 ·rw[e1,show N-(offs cnt k+cnt k)=N-offs cnt k-cnt k by omega,←List.drop_drop]
  exact h6.other h8 (fun x hx _=>by obtain rfl:=Option.some.inj hx;omega)
 ·rw[e1];omega
theorem QiH {w:World}{cb:Nat}{d h l v u x t n:Int}(q:Blk 23 w cb (c8 d h l v u x t n)):(Instr.fieldAt 23 (Pt cb) 3).run Tryz.prog w=.ok (.pointer (some ⟨cb,3,none⟩)) w∧(Instr.loadAt 3 (.pointer (some ⟨cb,3,none⟩))).run Tryz.prog w=.ok (I4 v) w:=by
 obtain⟨c0,c1,c2,c3,c4,c5,c6,c7⟩:=q.cfg
 constructor
 ·go_simp
 ·go_simp
theorem QhM (w:World)(d h l v u x t n:Int)(s:SL):(Instr.build 27 #[(0,.agg (c8 d h l v u x t n)),(1,s.w)]).run Tryz.prog w=.ok (.agg #[I4 d,I4 h,I4 l,I4 v,I4 u,I4 x,I4 t,I4 n,s.w,.slice none 0 0,.slice none 0 0,.slice none 0 0]) w:=by
 go_simp
theorem Qgp {w:World}{b:Nat}(q:Blk 27 w b Qi2)(d h l v u x t n:Int)(s:SL):∃ w',(Instr.storeAt 27 (Pt b) (.agg #[I4 d,I4 h,I4 l,I4 v,I4 u,I4 x,I4 t,I4 n,s.w,.slice none 0 0,.slice none 0 0,.slice none 0 0])).run Tryz.prog w=.ok () w'∧Blk 27 w' b #[I4 d,I4 h,I4 l,I4 v,I4 u,I4 x,I4 t,I4 n,s.w,.slice none 0 0,.slice none 0 0,.slice none 0 0]∧Only b w w':=by
 have q':Blk 27 w b #[I4 0,I4 0,I4 0,I4 0,I4 0,I4 0,I4 0,I4 0,nilS,nilS,nilS,nilS]:=q
 obtain⟨z0,z1,z2,z3,z4,z5,z6,z7,z8,z9,z10,z11⟩:=q'.c12
 obtain⟨o0,o1,o2,o3,o4,o5,o6,o7,o8,o9,o10,o11⟩:=q'.o12
 obtain⟨W6,eW,q6,only,hz⟩:=Qe8 q' (I4 d) (I4 h) (I4 l) (I4 v) (I4 u) (I4 x) (I4 t) (I4 n) (s.w) (.slice none 0 0) (.slice none 0 0) (.slice none 0 0)
 refine⟨W6,?_,q6,only⟩
 rw[←eW]
 clear eW q6 only hz q q'
 go_simp
def firD (i:Nat):Option Nat:=match i with|0=>some 27|1=>some 28|2=>some 29|3=>some 30|4=>some 31|5=>some 32|6=>some 33|7=>some 34|8=>some 8|_=>none
theorem Qmw:∀ i,i<10→∀ j,j<10→firD i=firD j→firD i≠none→i=j:=by decide
def firM (d h l v u x t n:Int)(s:SL):Array Value:=#[I4 d,I4 h,I4 l,I4 v,I4 u,I4 x,I4 t,I4 n,s.w,.slice none 0 0,.slice none 0 0,.slice none 0 0]
def firF (d h l v u x t n VD:Int)(xb cb B:Nat)(zs:List Int)(l':Nat→Bool)(i:Nat)(q:Value)(w:World):Prop:=match i with
 | 0=>q=.agg (c8 d h l v u x t n)
 | 1=>q=Pt xb
 | 2=>q=.pointer (some ⟨cb,3,none⟩)
 | 3=>q=I4 v
 | 4=>q=I4 d
 | 5=>q=I4 VD
 | 6=>∃ s:SL,q=s.w∧TS B w s zs
 | 7=>∃ s:SL,q=.agg (firM d h l v u x t n s)∧TS B w s zs
 | 8=>∃ b,q=Pt b∧B≤b∧(l' 9=false→Blk 27 w b Qi2)∧(l' 9=true→∃ s:SL,Blk 27 w b (firM d h l v u x t n s)∧TS B w s zs)
 | _=>True
theorem Qhc {d h l v u x t n VD:Int}{xb cb B:Nat}{zs:List Int}{l1 l2:Nat→Bool}{i:Nat}{q:Value}{w w':World}(hh:firF d h l v u x t n VD xb cb B zs l1 i q w)(h9:l2 9=l1 9)(k46:Keeps 73 w w')(k29:Keeps 27 w w'):firF d h l v u x t n VD xb cb B zs l2 i q w':=by
 unfold firF at hh ⊢
 split
 ·exact hh
 ·exact hh
 ·exact hh
 ·exact hh
 ·exact hh
 ·exact hh
 ·obtain⟨s,e1,e2⟩:=hh
  exact⟨s,e1,e2.step k46⟩
 ·obtain⟨s,e1,e2⟩:=hh
  exact⟨s,e1,e2.step k46⟩
 ·obtain⟨b,e1,e2,e3,e4⟩:=hh
  refine⟨b,e1,e2,fun k=>k29.blk (e3 (by rw[←h9];exact k)),fun k=>?_⟩
  obtain⟨s,f1,f2⟩:=e4 (by rw[←h9];exact k)
  exact⟨s,k29.blk f1,f2.step k46⟩
 ·trivial
theorem Only.new {xb b:Nat}{w0 w w':World}(h:Only xb w0 w)(hb:w0.heap.size≤b)(k:Only b w w'):Only xb w0 w' :=
 ⟨k.os.trans h.os,k.tape.trans h.tape,k.output.trans h.output,Nat.le_trans h.size k.size,fun i hi hn=>(k.block i (Nat.lt_of_lt_of_le hi h.size) (fun e=>by have:=Option.some.inj e;omega)).trans (h.block i hi hn)⟩
theorem Only.drew_ {xb:Nat}{w0 w:World}(h:Only xb w0 w):Only xb w0 { w with drawn:=w.drawn+1 }:=⟨h.os,h.tape,h.output,h.size,h.block⟩
theorem Blk.only {t:TypeId}{w w':World}{b g:Nat}{cs:Array Value}(q:Blk t w b cs)(o:Only g w w')(h:b≠g):Blk t w' b cs:=(o.block b q.lt (fun k=>h (by simpa using k))).trans q
theorem QaH.lt {w:World}{xb sb N T:Nat}{ws:List Int}(h:QaH w xb sb N ws T):xb<w.heap.size:=by obtain⟨y,c,q,_⟩:=h;exact q.lt
theorem QaH.keeps {w w':World}{xb sb N T:Nat}{ws:List Int}(h:QaH w xb sb N ws T)(o:Only xb w w'){t:TypeId}(ht:t≠113):Keeps t w w':=by obtain⟨y,c,q,_⟩:=h;exact Keeps.of_only o q ht
def firR (xb sb N:Nat)(ws:List Int)(cnt:Nat→Nat)(w0:World)(l:Nat→Bool)(a:Act)(w:World):Prop:=Only xb w0 w∧QaH w xb sb N ws (offs cnt (if l 6=true then 1 else 0))∧(l 9=true→l 8=true)
theorem Inv.none_' {N:Nat}{D:Nat→Option Nat}{a0:Act}{R:(Nat→Bool)→Act→World→Prop}{F:(Nat→Bool)→Nat→Value→World→Prop}{l:Nat→Bool}{a:Act}{w:World}(h:Inv N D a0 R F l a w){i:Nat}{w':World}(hD:D i=none)(hR:R (fun j=>l j || j==i) a w')(mono:∀ j d,j<N→D j=some d→l j=true→j≠i→F l j (a.tmps.getD d undef) w→F (fun j=>l j || j==i) j (a.tmps.getD d undef) w') :
  Inv N D a0 R F (fun j=>l j || j==i) a w':=by
 refine⟨h.size,h.defers,h.kept,hR,fun j d' hj hDj hl=>?_⟩
 have e:j≠i:=fun e=>by rw[e,hD] at hDj;cases hDj
 have hl':l j=true:=by simpa [e] using hl
 exact mono j d' hj hDj hl' e (h.val j d' hj hDj hl')
theorem QdU {id:Nat}{ops:Array Oper}{Q:Exit→Act→World→Prop}{a0:Act}{w0:World}(d h l v u x t n:Int)(xb cb sb N:Nat)(ws:List Int)(cnt:Nat→Nat)(hB:lowB ops=true)(hsz:ops.size=10)
  (o0:OpAt ops 0 (some 27) (.load 23 (.tmp 2)) []) (o1:OpAt ops 1 (some 28) (.move (.tmp 7)) []) (o2:OpAt ops 2 (some 29) (.fieldAddr 23 (.tmp 2) 3) []) (o3:OpAt ops 3 (some 30) (.load 3 (.tmp 29)) [2]) (o4:OpAt ops 4 (some 31) (.move (.tmp 6)) []) (o5:OpAt ops 5 (some 32) (.binOp .mul 3 (.tmp 30) (.tmp 31) 3) [3,4])
  (o6:OpAt ops 6 (some 33) (.call { callee:=.value (.func 81),args:=#[.tmp 28,.tmp 32],argTypes:=#[111,3] }) [1,5]) (o7:OpAt ops 7 (some 34) (.build 27 #[(0,.tmp 27),(1,.tmp 33)]) [0,6]) (o8:OpAt ops 8 (some 8) (.alloc 27) []) (o9:OpAt ops 9 none (.store 27 (.tmp 8) (.tmp 34)) [7,8])
  (hmul:∀ w,(binOp .mul 3 (I4 v) (I4 d)).run Tryz.prog w=.ok (I4 (cnt 0:Int)) w) (q:Blk 23 w0 cb (c8 d h l v u x t n)) (h2:a0.tmps.getD 2 undef=Pt cb) (h7:a0.tmps.getD 7 undef=Pt xb) (h6:a0.tmps.getD 6 undef=I4 d)
  (hc:QaH w0 xb sb N ws 0) (hfit:cnt 0≤N) (hN:N≤100000) (hsb:sb≠xb) (hcx:cb≠xb) (hsl:sb<w0.heap.size) (hs:35≤a0.tmps.size)
  (fin:∀ a w b (s:SL),a.tmps.size=a0.tmps.size→a.defers=a0.defers→(∀ k,(∀ i,i<10→firD i≠some k)→a.tmps.getD k undef=a0.tmps.getD k undef)→tm a 8=Pt b→w0.heap.size≤b→Blk 27 w b (firM d h l v u x t n s)→TS w0.heap.size w s (seg cnt ws 0)→QaH w xb sb N ws (offs cnt 1)→Only xb w0 w→Q .normal a w):(Code.region id ops true).wp Tryz.prog Q a0 w0:=by
 have hrun:∀ args w,(callFunc 81 args).run Tryz.prog w=.ok (.enter 81 args) w:=QeZ Tryz.func81 (by kernel_rfl) rfl
 have hxl:=hc.lt
 refine QaZ (by kernel_rfl) hB (Inv 10 firD a0 (firR xb sb N ws cnt w0) (firF d h l v u x t n (cnt 0:Int) xb cb w0.heap.size (seg cnt ws 0))) (Inv.start ⟨(Only.refl xb w0).drew_,by obtain⟨y,c,q1,q2,q3,q4⟩:=hc;exact⟨y,c,q1,q2,⟨q3.len,q3.max,q3.wf,q3.some_,q3.cell⟩,q4⟩,fun h=>by cases h⟩) ?_ ?_
 ·intro l' i o a w ho hl hdep hI
  have hi:i<10:=by rw[←hsz];exact (Array.getElem?_eq_some_iff.1 ho).1
  obtain⟨honly,hcut,d9⟩:=hI.world
  have hsB:=honly.size
  have inj:∀ d,firD i=some d→∀ j d',j<10→firD j=some d'→j≠i→d'≠d:=fun d hd j d' hj hd' hne e=>hne (Qmw j hj i hi (by rw[hd,hd',e]) (by rw[hd'];simp))
  have ev:∀ (s:Nat),a.eval (.tmp s)=a.tmps.getD s undef:=fun _=>rfl
  have ke:∀ s,(∀ i,i<10→firD i≠some s)→a.eval (.tmp s)=a0.tmps.getD s undef:=fun s hs=>hI.kept s hs
  have qc:Blk 23 w cb (c8 d h l v u x t n):=q.only honly hcx
  have l6:i≠6→(l' 6 || 6==i)=l' 6:=fun h=>by rw[show (6==i)=false by simp;omega,Bool.or_false]
  have l9:i≠9→(l' 9 || 9==i)=l' 9:=fun h=>by rw[show (9==i)=false by simp;omega,Bool.or_false]
  have newW:∀ {d' v' w'},firD i=some d'→d'<35→i≠6→i≠9→Bw w w'→(firF d h l v u x t n (cnt 0:Int) xb cb w0.heap.size (seg cnt ws 0)) (fun j=>l' j || j==i) i v' w'→Inv 10 firD a0 (firR xb sb N ws cnt w0) (firF d h l v u x t n (cnt 0:Int) xb cb w0.heap.size (seg cnt ws 0)) (fun j=>l' j || j==i) (a.put (some d') v') w':=fun hD hd n6 n9 hw hF=>hI.put hi hD (by omega) (inj _ hD) ⟨honly.trans (Only.of_below hw),by simp only[l6 n6];exact hcut.below hw,fun h=>by have h':l' 9=true:=(by simpa only[l9 n9] using h);simp[d9 h']⟩ hF fun j u _ _ _ hf=>Qhc hf (l9 n9) (Keeps.of_below hw) (Keeps.of_below hw)
  have pure_:∀ {d' v'},firD i=some d'→d'<35→i≠6→i≠9→(firF d h l v u x t n (cnt 0:Int) xb cb w0.heap.size (seg cnt ws 0)) (fun j=>l' j || j==i) i v' w→Inv 10 firD a0 (firR xb sb N ws cnt w0) (firF d h l v u x t n (cnt 0:Int) xb cb w0.heap.size (seg cnt ws 0)) (fun j=>l' j || j==i) (a.put (some d') v') w:=fun hD hd n6 n9 hF=>newW hD hd n6 n9 bR hF
  rcases l10 (show i<10 by omega) with rfl|rfl|rfl|rfl|rfl|rfl|rfl|rfl|rfl|rfl
  ·obtain⟨o',e1,e2,e3,e4,e5⟩:=o0
   obtain rfl:=sOp ho e1
   have dp:=Qao (ops:=ops) e5 hdep
   refine wVa (v:=.agg (c8 d h l v u x t n)) (w':=w) ho e4 ?_ (by rw[e2];exact pure_ rfl (by decide) (by decide) (by decide) rfl)
   simp[execOp,e3,ke 2 (by decide),h2,Qdv qc]
  ·obtain⟨o',e1,e2,e3,e4,e5⟩:=o1
   obtain rfl:=sOp ho e1
   have dp:=Qao (ops:=ops) e5 hdep
   refine wVa (v:=Pt xb) (w':=w) ho e4 ?_ (by rw[e2];exact pure_ rfl (by decide) (by decide) (by decide) rfl)
   simp[execOp,e3,ke 7 (by decide),h7]
  ·obtain⟨o',e1,e2,e3,e4,e5⟩:=o2
   obtain rfl:=sOp ho e1
   have dp:=Qao (ops:=ops) e5 hdep
   refine wVa (v:=.pointer (some ⟨cb,3,none⟩)) (w':=w) ho e4 ?_ (by rw[e2];exact pure_ rfl (by decide) (by decide) (by decide) rfl)
   simp[execOp,e3,ke 2 (by decide),h2,(QiH qc).1]
  ·obtain⟨o',e1,e2,e3,e4,e5⟩:=o3
   obtain rfl:=sOp ho e1
   have dp:=Qao (ops:=ops) e5 hdep
   have ev1:a.tmps.getD 29 undef=.pointer (some ⟨cb,3,none⟩):=hI.vl dp 2 29 rfl rfl
   refine wVa (v:=I4 v) (w':=w) ho e4 ?_ (by rw[e2];exact pure_ rfl (by decide) (by decide) (by decide) rfl)
   simp[execOp,e3,ev,ev1,(QiH qc).2]
  ·obtain⟨o',e1,e2,e3,e4,e5⟩:=o4
   obtain rfl:=sOp ho e1
   have dp:=Qao (ops:=ops) e5 hdep
   refine wVa (v:=I4 d) (w':=w) ho e4 ?_ (by rw[e2];exact pure_ rfl (by decide) (by decide) (by decide) rfl)
   simp[execOp,e3,ke 6 (by decide),h6]
  ·obtain⟨o',e1,e2,e3,e4,e5⟩:=o5
   obtain rfl:=sOp ho e1
   have dp:=Qao (ops:=ops) e5 hdep
   have ev1:a.tmps.getD 30 undef=I4 v:=hI.vl dp 3 30 rfl rfl
   have ev2:a.tmps.getD 31 undef=I4 d:=hI.vl dp 4 31 rfl rfl
   refine wVa (v:=I4 (cnt 0:Int)) (w':=w) ho e4 ?_ (by rw[e2];exact pure_ rfl (by decide) (by decide) (by decide) rfl)
   simp[execOp,e3,ev,ev1,ev2,hmul,eqGuard]
  ·obtain⟨o',e1,e2,e3,e4,e5⟩:=o6
   obtain rfl:=sOp ho e1
   have dp:=Qao (ops:=ops) e5 hdep
   have ev1:a.tmps.getD 28 undef=Pt xb:=hI.vl dp 1 28 rfl rfl
   have ev2:a.tmps.getD 32 undef=I4 (cnt 0:Int):=hI.vl dp 5 32 rfl rfl
   have hcut':QaH w xb sb N ws (offs cnt 0):=by rw[hl] at hcut;exact hcut
   refine wCa (f:=81) (args:=#[Pt xb,I4 (cnt 0:Int)]) ho e4 ?_ ((Qc9 (k:=0) hcut' (by show offs cnt 0+cnt 0≤N;show 0+cnt 0≤N;omega) hN hsb).mono fun e w' hh=>?_)
   ·simp[execOp,e3,resolve,invoke,ev,ev1,ev2,Deferred.ofValue,hrun,show a.eval (.func 81)=.func (.func 81) #[] #[] from rfl]
   ·obtain⟨s,g1,g2,g3,g4⟩:=hh
    refine⟨_,g1,?_⟩
    rw[e2]
    exact hI.put hi rfl (by omega) (inj _ rfl) ⟨honly.trans g4,by simpa using g3,fun h=>by have h':l' 9=true:=(by simpa using h);simp[d9 h']⟩ ⟨s,rfl,g2.le hsB⟩ fun j u' _ _ _ hf=>Qhc hf (l9 (by decide)) (hcut'.keeps g4 (by decide)) (hcut'.keeps g4 (by decide))
  ·obtain⟨o',e1,e2,e3,e4,e5⟩:=o7
   obtain rfl:=sOp ho e1
   have dp:=Qao (ops:=ops) e5 hdep
   have ev1:a.tmps.getD 27 undef=.agg (c8 d h l v u x t n):=hI.vl dp 0 27 rfl rfl
   obtain⟨s,ev2,ts⟩:=hI.vl dp 6 33 rfl rfl
   refine wVa (v:=.agg (firM d h l v u x t n s)) (w':=w) ho e4 ?_ (by rw[e2];exact pure_ rfl (by decide) (by decide) (by decide) ⟨s,rfl,ts⟩)
   simp[execOp,e3,ev,ev1,ev2,QhM,firM]
  ·obtain⟨o',e1,e2,e3,e4,e5⟩:=o8
   obtain rfl:=sOp ho e1
   have dp:=Qao (ops:=ops) e5 hdep
   have nd9:l' 9=false:=by
    cases h9:l' 9 with
    | false=>rfl
    | true=>exact absurd (d9 h9) (by rw[hl];simp)
   refine wVa (v:=Pt w.heap.size) (w':=w.alloc (.cells Qi2 27)) ho e4 ?_ (by rw[e2];exact newW rfl (by decide) (by decide) (by decide) (bNw bR _) ⟨_,rfl,hsB,fun _=>Blk.new 27 w Qi2,fun h=>by simp[nd9] at h⟩)
   simp[execOp,e3,QhP]
  ·obtain⟨o',e1,e2,e3,e4,e5⟩:=o9
   obtain rfl:=sOp ho e1
   have dp:=Qao (ops:=ops) e5 hdep
   obtain⟨b,ev1,hbB,hq,-⟩:=hI.vl dp 8 8 rfl rfl
   obtain⟨s,ev2,ts⟩:=hI.vl dp 7 34 rfl rfl
   have hq':=hq hl
   obtain⟨w',hrn,hq2,honly'⟩:=Qgp hq' d h l v u x t n s
   have k46:Keeps 73 w w':=Keeps.of_only honly' hq' (by decide)
   refine wSk (w':=w') ho e4 ?_ ?_
   ·simp[execOp,e3,ev,ev1,ev2,hrn,firM]
   ·rw[e2]
    refine hI.none_' rfl ⟨honly.new hbB honly',by simp only[l6 (show (9:Nat)≠6 by decide)];exact hcut.only honly' (by omega) (by omega),fun _=>by simp[dp 8 (by decide)]⟩ fun j d' hj hDj hlj hne hf=>?_
    rcases (show j=0∨j=1∨j=2∨j=3∨j=4∨j=5∨j=6∨j=7∨j=8 by omega) with rfl|rfl|rfl|rfl|rfl|rfl|rfl|rfl|rfl
    ·exact hf
    ·exact hf
    ·exact hf
    ·exact hf
    ·exact hf
    ·exact hf
    ·obtain⟨s',f1,f2⟩:=hf
     exact⟨s',f1,f2.step k46⟩
    ·obtain⟨s',f1,f2⟩:=hf
     exact⟨s',f1,f2.step k46⟩
    ·obtain rfl:=Option.some.inj hDj
     exact⟨b,ev1,hbB,(fun h=>by simp at h),fun _=>⟨s,hq2,ts.step k46⟩⟩
 ·intro l' a w hall hI
  obtain⟨b,e1,e2,_,e4⟩:=hI.val 8 8 (by decide) rfl (hall 8 (by omega))
  obtain⟨s,e5,e6⟩:=e4 (hall 9 (by omega))
  obtain⟨g1,g2,_⟩:=hI.world
  rw[if_pos (hall 6 (by omega))] at g2
  exact fin a w b s hI.size hI.defers hI.kept e1 e2 e5 e6 g2 g1
structure AdV where
 ln:Nat
 f:Nat→Nat→List Int
structure AdAt (w:World) (L:SL) (Y:Nat→Nat→SL) (m:AdV):Prop where
 len:L.n=m.ln
 some_:0<m.ln→∃ x,L.a=some x
 nil:L.a=none→L.c=0
 cap:L.n≤L.c
 cell:∀ x,L.a=some x→∀ i,i<m.ln→∀ j,j<4→w.cell? ((x.add (i*4)).add j)=some (Y i j).v
 lay:∀ i,i<m.ln→∀ j,j<4→IsS w (Y i j) (m.f i j)
theorem AdAt.below {w w':World}{L:SL}{Y:Nat→Nat→SL}{m:AdV}(h:AdAt w L Y m)(hb:Bw w w'):AdAt w' L Y m :=
 ⟨h.len,h.some_,h.nil,h.cap,fun x hx i hi j hj=>(hb.cell (World.block_lt_of_cell? w _ (h.cell x hx i hi j hj))).trans (h.cell x hx i hi j hj),fun i hi j hj=>(h.lay i hi j hj).below hb⟩
def NewA (base:Nat)(w:World)(L:SL)(Y:Nat→Nat→SL)(m:AdV):Prop:=∀ w',From base w w'→AdAt w' L Y m
theorem NewA.from_ {base:Nat}{w w':World}{L:SL}{Y:Nat→Nat→SL}{m:AdV}(h:NewA base w L Y m)(hf:From base w w'):NewA base w' L Y m:=fun w'' hc=>h w'' (hf.trans hc)
theorem NewA.only {base q:Nat}{w w':World}{L:SL}{Y:Nat→Nat→SL}{m:AdV}(h:NewA base w L Y m)(o:Only q w w')(hq:q<base):NewA base w' L Y m:=h.from_ (From.of_only o hq)
theorem NewA.le {base base':Nat}{w:World}{L:SL}{Y:Nat→Nat→SL}{m:AdV}(h:NewA base w L Y m)(hb:base'≤base):NewA base' w L Y m :=
 fun w'' hc=>h w'' fun p v hp hle=>hc p v hp (Nat.le_trans hb hle)
def noA:AdV:=⟨0,fun _ _=>[]⟩
theorem NewA.none_ (base:Nat)(w:World)(Y:Nat→Nat→SL):NewA base w ⟨none,0,0⟩ Y noA:=fun w' _=>⟨rfl,(fun h=>by cases h),fun _=>rfl,Nat.le_refl _,(fun x hx=>by cases hx),(fun i hi=>by cases hi)⟩
def QdX (Y:Nat→Nat→SL)(n:Nat):List Value:=(List.range n).flatMap fun i=>(List.range 4).map fun r=>(Y i r).v
theorem QbC (Y:Nat→Nat→SL)(n:Nat):QdX Y (n+1)=QdX Y n++(List.range 4).map fun r=>(Y n r).v:=by simp[QdX,List.range_succ]
theorem QjN (Y:Nat→Nat→SL)(n:Nat):(QdX Y n).length=n*4:=by
 induction n with
 | zero=>rfl
 | succ n ih=>rw[QbC,List.length_append,ih];simp;omega
theorem Qlw (Y:Nat→Nat→SL)(n i r:Nat)(hi:i<n)(hr:r<4):(QdX Y n)[i*4+r]? = some (Y i r).v:=by
 induction n with
 | zero=>omega
 | succ n ih =>
  rw[QbC]
  have hl:=QjN Y n
  by_cases e:i=n
  ·subst e
   rw[List.getElem?_append_right (by omega),hl,show i*4+r-i*4=r by omega]
   simp[hr]
  ·rw[List.getElem?_append_left (by omega)]
   exact ih (by omega)
theorem Qhh {Y Y':Nat→Nat→SL}{n:Nat}(h:∀ i,i<n→∀ r,r<4→Y i r=Y' i r):QdX Y n=QdX Y' n:=by
 induction n with
 | zero=>rfl
 | succ n ih =>
  rw[QbC,QbC,ih fun i hi=>h i (by omega)]
  congr 1
  exact List.map_congr_left fun r hr=>by rw[h n (by omega) r (List.mem_range.1 hr)]
structure TA (B:Nat) (w:World) (v:Value) (n:Nat) (Y:Nat→Nat→SL) (f:Nat→Nat→List Int):Prop where
 own:w.ownsRow B 61 4 v n (QdX Y n)
 lay:∀ i,i<n→∀ j,j<4→TS B w (Y i j) (f i j)
theorem TA.nil (B:Nat)(w:World)(Y:Nat→Nat→SL)(f:Nat→Nat→List Int):TA B w (.slice none 0 0) 0 Y f:=⟨World.ownsRow_nil _ _ _ _,fun j hj=>by omega⟩
theorem TA.below {B:Nat}{w w':World}{v:Value}{n:Nat}{Y:Nat→Nat→SL}{f:Nat→Nat→List Int}(h:TA B w v n Y f)(hb:Bw w w'):TA B w' v n Y f:=⟨(Keeps.of_below hb).own h.own,fun i hi j hj=>(h.lay i hi j hj).step (Keeps.of_below hb)⟩
theorem TA.new {B:Nat}{w:World}{v:Value}{Y:Nat→Nat→SL}{m:AdV}(h:TA B w v m.ln Y m.f):∃ L:SL,v=L.v∧NewA B w L Y m:=by
 rcases h.own.2 with⟨e,e'⟩|⟨g,cap,cur,e,hg,hh,hcap,hm,_⟩
 ·exact⟨⟨none,0,0⟩,e,fun w' hf=>⟨e'.symm,(fun h=>by omega),fun _=>rfl,Nat.le_refl _,(fun x hx=>by cases hx),fun i hi j hj=>(h.lay i hi j hj).new w' hf⟩⟩
 ·refine⟨⟨some ⟨g,0,none⟩,m.ln,cap⟩,e,fun w' hf=>⟨rfl,fun _=>⟨_,rfl⟩,(fun h=>by cases h),hcap,fun x hx i hi j hj=>?_,fun i hi j hj=>(h.lay i hi j hj).new w' hf⟩⟩
  obtain rfl:=Option.some.inj hx
  have ho:=h.own
  rw[e] at ho
  have c:=ho.cells (g:=g) rfl (i*4+j) (Y i j).v (Qlw Y m.ln i j hi hj)
  rw[Addr.add_add]
  refine hf _ _ c ?_
  have e2:((⟨g,0,none⟩:Addr).add (i*4+j)).block=g:=by unfold Addr.add;split<;>rfl
  omega
theorem Qod:(Tryz.prog.info? 61).map (fun i=>(i.zero,i.size,i.bytes))=some (some (.agg #[nilS,nilS,nilS,nilS]),4,96):=by kernel_rfl
theorem i61':∃ i,Tryz.prog.info? 61=some i∧i.zero=some (.agg #[nilS,nilS,nilS,nilS])∧i.size=4∧i.bytes=96:=by
 have:=Qod
 cases h:Tryz.prog.info? 61 with
 | none=>rw[h] at this;cases this
 | some i=>rw[h] at this;simp at this;exact⟨i,rfl,this.1,this.2.1,this.2.2⟩
theorem Qiz {w:World}{x:Addr}{i:Nat}{y:Nat→SL}(h:∀ j,j<4→w.cell? ((x.add (i*4)).add j)=some (y j).v) :
  ∃ P,x.add (i*4)=P∧w.cell? P=some ((y 0).w)∧w.cell? ⟨P.block,P.off+1,none⟩=some ((y 1).w)∧w.cell? ⟨P.block,P.off+2,none⟩=some ((y 2).w) ∧
   w.cell? ⟨P.block,P.off+3,none⟩=some ((y 3).w) :=
 ⟨_,rfl,h 0 (by omega),h 1 (by omega),h 2 (by omega),h 3 (by omega)⟩
def okA (R S:Int)(d h l v u x t n:Int):Bool:=okB d h l v u x t n && (decide (1≤R) && (decide (R≤4) && (decide (0≤S) && decide (S≤8))))
def Qmo (R d:Int)(m:AdV):Bool:=(List.range m.ln).all fun i=>(List.range 4).all fun j=>decide (((m.f i j).length:Int)=R*d)
theorem QbX {R d:Int}{m:AdV}:Qmo R d m=true↔∀ i,i<m.ln→∀ j,j<4→((m.f i j).length:Int)=R*d:=by
 unfold Qmo
 simp only[List.all_eq_true,List.mem_range,decide_eq_true_eq]
def QbB (R S d h l v u x t n:Int)(m:AdV):Int:=if okA R S d h l v u x t n=true then (if (m.ln:Int)=l∧Qmo R d m=true then 0 else 21) else 20
section
open Go.Sort hiding Below
def four (a b c d:SL)(r:Nat):SL:=match r with|0=>a|1=>b|2=>c|_=>d
theorem QiF (w : World) (ty : TypeId) (B k : Nat) (v : Value) (Y : Nat → Nat → SL) (f : Nat → Nat → List Int) (y : Nat → SL) (g c : Nat) (hT : TA B w v k Y f) (hc : Blk 61 w g #[(y 0).v, (y 1).v, (y 2).v, (y 3).v]) (hy : ∀ j, j < 4 → TS B w (y j) (f k j)) (hl : (k + 1) * 96 ≤ 140737488355328) (hB : B ≤ w.heap.size) :
    ∃ v' w', (Builtin.append_ #[28, 28] ty #[v, .slice (some ⟨g, 0, none⟩) 1 c]).run Tryz.prog w = .ok v' w' ∧ Below B w w' ∧ Keeps 30 w w' ∧ Keeps 113 w w' ∧ TA B w' v' (k + 1) (upd Y k y) f := by
  obtain ⟨i0, hi, hz0, hz1, hz2⟩ := i61'
  obtain ⟨v', w', hr, own', hg, _, _⟩ := run_append_own_at (P := Tryz.prog) (w := w) B 28 ty 61 i0 _ 4 96 Tryz.underlying28 hi hz0 hz1 hz2 rfl (by decide) v k _ hT.own ⟨g, 0, none⟩ 1 c ((List.range 4).map fun r => (y r).v) (by simp) (fun j u hj => by
    have e : (⟨g, 0, none⟩ : Addr).add j = ⟨g, j, none⟩ := by by_cases h : j = 0 <;> simp [Addr.add, h]
    rw [e]
    exact hc.cell j (by have hj' : [(y 0).v, (y 1).v, (y 2).v, (y 3).v][j]? = some u := hj
                        simpa using hj')) (fun u hu => by obtain ⟨r, _, rfl⟩ := List.mem_map.1 hu; rfl) (by unfold maxLen; omega) hl hB
  have k62 : Keeps 73 w w' := Keeps.of_own hg hT.own (by decide)
  refine ⟨v', w', hr, (Below.refl B w).grown hg hB fun g h => (hT.own.lt g h).1, Keeps.of_own hg hT.own (by decide), Keeps.of_own hg hT.own (by decide), ?_, fun i hi j hj => ?_⟩
  · rw [QbC, Qaz, Qhh (Y' := Y) (fun i hi r _ => by rw [Qal Y k y (by omega)])]
    exact own'
  · by_cases e : i = k
    · subst e
      rw [Qaz]
      exact (hy j hj).step k62
    · rw [Qal Y k y e]
      exact (hT.lay i (by omega) j hj).step k62
theorem Qfb {ops:Array Oper}{rest:List Oper}{o:Oper}{a:Act}{w:World}{Q:Exit→Act→World→Prop}(hgd:o.guard=none)(s x:Operand)(ho:o.op=.call { callee:=.builtin .append,args:=#[s,x],argTypes:=#[28,28] })
  (B k:Nat) (v:Value) (Y:Nat→Nat→SL) (f:Nat→Nat→List Int) (y:Nat→SL) (g c:Nat) (hs:a.eval s=v) (hx:a.eval x=.slice (some ⟨g,0,none⟩) 1 c) (hT:TA B w v k Y f) (hc:Blk 61 w g #[(y 0).v,(y 1).v,(y 2).v,(y 3).v]) (hy:∀ j,j<4→TS B w (y j) (f k j)) (hl:(k+1)*96≤140737488355328) (hB:B≤w.heap.size)
  (h:∀ v' w',Below B w w'→Keeps 30 w w'→Keeps 113 w w'→TA B w' v' (k+1) (upd Y k y) f→wpList Tryz.prog ops Q rest (a.put o.dst v') w'):wpList Tryz.prog ops Q (o :: rest) a w:=by
 refine wpList_plain hgd fun K hK=>?_
 obtain⟨v',w',hr,h1,h2,h3,h4⟩:=QiF w o.type B k v Y f y g c hT hc hy hl hB
 unfold Oper.wp execOp
 simp only[ho,resolve,invoke,builtin,Sem.run_bind,Sem.run_pure,Result.andThen_ok,List.map_toArray,List.map_cons,List.map_nil,hs,hx,hr]
 exact hK _ _ (h v' w' h1 h2 h3 h4)
theorem Qfz.dep {ops:Array Oper}{l:Nat→Bool}(h:Qfz ops l){i:Nat}{d:Option Tmp}{op:Op}{deps:List Nat}(ho:OpAt ops i d op deps)(hi:l i=true):∀ q∈deps,l q=true:=by
 obtain⟨o,e1,_,_,_,e5⟩:=ho
 exact dPo e5 fun e he hb=>h i o e1 hi e he hb
theorem QhL (w:World)(s0 s1 s2 s3:SL):(Instr.build 61 #[(0,s0.v),(1,s1.v),(2,s2.v),(3,s3.v)]).run Tryz.prog w=.ok (.agg #[s0.v,s1.v,s2.v,s3.v]) w:=by
 unfold SL.v
 go_simp
theorem QhN (w:World)(s0 s1 s2 s3:SL):(Instr.buildSlice 28 1 #[(0,.agg #[s0.v,s1.v,s2.v,s3.v])]).run Tryz.prog w=.ok (.slice (some ⟨w.heap.size,0,none⟩) 1 1) (w.alloc (.cells #[s0.v,s1.v,s2.v,s3.v] 61)):=by
 unfold SL.v
 go_simp
end
section
open Go.ChangeShapes Go.WideShapes Go.ChangeAt Go.RowKit Go.Sort
def segA (N:Nat)(ws:List Int)(q:Nat):List Int:=(ws.drop (q*N)).take N
def Qdc (ln N:Nat)(ws:List Int):AdV:=⟨ln,fun i j=>segA N ws (4*i+j)⟩
end
section
open Go.Sort hiding Below
theorem Qll {W W1:World}{m:Nat}{zs:List Int}{v:Value}(ho:W1.ownsRow W.heap.size 73 1 v (0+m) ([]++zs.map (Value.int .i8)))(hg:(W.alloc (.cells #[] 73)).grownBy W1 (Value.slice (some ⟨W.heap.size,0,none⟩) 0 0).ownBlock)
  {a:Option Addr}{wz:World} (hr:Reads .i8 wz a m zs):∃ s:SL,v=s.w∧s.n=m∧TS W.heap.size W1 s zs∧Bw W W1:=by
 obtain⟨a1,c1,e1,r1,hb,n1,l1⟩:=Qhd (W:=W) (w:=W) (Below.refl _ W) (.cells #[] 73) ho hg hr
 simp only[Nat.zero_add,List.nil_append] at ho
 subst e1
 have ty:=QgW ho
 refine⟨⟨a1,m,c1⟩,rfl,rfl,⟨⟨r1,n1,l1⟩,fun y hy=>⟨?_,ty y hy⟩⟩,hb⟩
 have hy':a1=some y:=hy
 rw[hy'] at ho
 exact (ho.lt y.block (by simp[Value.ownBlock])).1
def CutA (w:World)(ws:List Int)(T N q cb:Nat)(W:World):Prop:=∃ (y:Addr) (c:Nat),Blk 113 W cb #[.slice (some y) (T-q*N) c]∧Reads .i8 w (some y) (T-q*N) (ws.drop (q*N))∧T-q*N≤c
theorem CutA.below {w:World}{ws:List Int}{T N q cb:Nat}{W W':World}(h:CutA w ws T N q cb W)(hb:Bw W W'):CutA w ws T N q cb W':=by
 obtain⟨y,c,k,r,l⟩:=h
 exact⟨y,c,k.kept hb,r,l⟩
theorem CutA.keeps {w:World}{ws:List Int}{T N q cb:Nat}{W W':World}(h:CutA w ws T N q cb W)(hb:Keeps 113 W W'):CutA w ws T N q cb W':=by
 obtain⟨y,c,k,r,l⟩:=h
 exact⟨y,c,hb.blk k,r,l⟩
theorem Qk1 (w:World)(ws:List Int)(T N q cb:Nat)(W:World)(hC:CutA w ws T N q cb W)(hq:q*N+N≤T)(hT:T≤100000)(hw:Bw w W) :
  Calls Tryz.prog 81 #[Pt cb,I4 (N:Int)] W fun e W'=>∃ s:SL,e=.returned (s.w)∧TS W.heap.size W' s (segA N ws q)∧CutA w ws T N (q+1) cb W'∧Only cb W W'∧Keeps 30 W W'∧Keeps 61 W W'∧Keeps 73 W W':=by
 obtain⟨i0,hi,hz0,hz1,hz2⟩:=i73'
 obtain⟨x,c,hq0,hr0,hc⟩:=hC
 have enn:T-(q+1)*N=T-q*N-N:=by rw[Nat.add_mul,Nat.one_mul];omega
 have edr:ws.drop ((q+1)*N)=(ws.drop (q*N)).drop N:=by rw[List.drop_drop,Nat.add_mul,Nat.one_mul]
 obtain⟨n,en⟩:∃ n,T-q*N=n:=⟨_,rfl⟩
 have hk:N≤n:=by omega
 have hn:n≤100000:=by omega
 rw[en] at hq0 hr0 hc enn
 have hr:=hr0.below hw
 have hkc:(N:Int)≤(c:Int):=by omega
 have hkn:(N:Int)≤(n:Int):=by omega
 have k0:(0:Int)≤(N:Int):=by omega
 obtain⟨y,ey,ry⟩:∃ y:Addr,(if c=N then some x else some (x.add N))=some y∧Reads .i8 w (some y) (n-N) ((ws.drop (q*N)).drop N):=by
  by_cases e:c=N
  ·refine⟨x,by rw[if_pos e],?_⟩
   have hl:=hr.len
   rw[show n-N=0 by omega,List.drop_eq_nil_of_le (by omega)]
   exact⟨rfl,by omega,fun i=>by simpa using Qc1 .i8,fun h=>by omega,fun _ _ i hi=>by omega⟩
  ·refine⟨x.add N,by rw[if_neg e],?_⟩
   have:=hr0.cut N (n-N) (by omega)
   rwa [List.take_of_length_le (by rw[List.length_drop,hr.len];omega)] at this
 have c0:W.cell? ⟨cb,0,none⟩=some (.slice (some x) n c):=hq0.cell 0 rfl
 have key:∀ W1,Bw W W1→W1.cell? ⟨cb,0,none⟩=some (.slice (some x) n c)∧W1.frozen? ⟨cb,0,none⟩=false∧Hid (Blk 113 W1 cb #[.slice (some x) n c]):=fun W1 hb=>⟨(hq0.kept hb).cell 0 rfl,(hq0.kept hb).open_ 0,hq0.kept hb⟩
 have rt:Reads .i8 W (some x) N (segA N ws q):=by have:=hr.cut 0 N (by omega);simpa [Addr.add,segA] using this
 have rt':Reads .i8 (W.alloc (.cells #[] 73)) (some x) N (segA N ws q):=rt.below (bNw bR _)
 have c0':(W.alloc (.cells #[] 73)).cell? ⟨cb,0,none⟩=some (.slice (some x) n c):=(hq0.kept (bNw bR _)).cell 0 rfl
 have own0:(W.alloc (.cells #[] 73)).ownsRow W.heap.size 73 1 (.slice (some ⟨W.heap.size,0,none⟩) 0 0) 0 []:=World.ownsRow_lit (base:=W.heap.size) (size:=1) W #[] 0 nL (by unfold maxLen;omega) (by simp)
 have HK:=hdn key
 have HR:=hdn ry
 have HE:=hdn (And.intro enn edr)
 have HT:=hdn rt
 clear key hq0 ry enn edr hr hr0 en rt
 go_enter Tryz.func81,Tryz.ntmps81
 go_wp2_with (first
  | (at_builtin;refine Qav rfl _ _ 24 rfl W.heap.size 73 i0 (.int .i8 0) 1 Tryz.underlying24 hi hz0 hz1 hz2 rfl _ 0 [] rfl own0 .i8 (some x) N c (segA N ws q) rfl rt' (by intro h;cases h) (by unfold maxLen;omega) (by omega) (by simp) ?_;intro v1 W1 ho hg;obtain⟨s,rfl,-,ts,hb⟩:=Qll ho hg HT.out;obtain⟨g1,g2,g3⟩:=HK.out W1 hb;clear ho hg own0 c0'))
 go_ret
 have on:=Only.set cb 0 W1 (.slice (some y) (n-N) (c-N))
 refine⟨s,rfl,ts.step (Keeps.of_only on g3.out (by decide)),⟨y,c-N,?_,?_,?_⟩,(Only.of_below hb).trans on,(Keeps.of_below hb).trans (Keeps.of_only on g3.out (by decide)),(Keeps.of_below hb).trans (Keeps.of_only on g3.out (by decide)),(Keeps.of_below hb).trans (Keeps.of_only on g3.out (by decide))⟩
 ·rw[HE.out.1];exact g3.out.set 0 _
 ·rw[HE.out.1,HE.out.2];exact HR.out
 ·rw[HE.out.1];omega
end
end Go.Proofs.YthliomlmhfjhnaaGreat

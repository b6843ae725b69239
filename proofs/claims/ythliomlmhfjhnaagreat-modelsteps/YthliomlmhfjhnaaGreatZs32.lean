/- Texts put together. -/
import Derived.Test.YthliomlmhfjhnaaGreatZs31
import Derived.Test.YthliomlmhfjhnaaGreatZs19
import Derived.Test.YthliomlmhfjhnaaGreatZs23
import Derived.Test.YthliomlmhfjhnaaGreatZs17
import Derived.Test.YthliomlmhfjhnaaGreatZs30
import Derived.Laws.MakeOwn
namespace Go.Proofs.YthliomlmhfjhnaaGreat
set_option maxRecDepth 20000
set_option maxHeartbeats 16000000
open Go.ChangeShapes Go.WideShapes Go.ChangeAt Go.RowKit
set_option linter.unusedVariables false
set_option linter.unusedSimpArgs false
structure Fits (m:ModV):Prop where
 e:m.e.length≤140737488351232
 nm:m.nm.length≤140737488351232
 o:m.o.length≤140737488351232
 ln:m.ln≤20
 f:∀ i,i<m.ln→∀ j,j<7→(m.f i j).length≤140737488351232
 un:∀ i,i<m.ln→m.un i*24≤140737488351232
 dn:∀ i,i<m.ln→m.dn i*24≤140737488351232
 u:∀ i,i<m.ln→∀ j,j<m.un i→(m.u i j).length≤140737488351232
 d:∀ i,i<m.ln→∀ j,j<m.dn i→(m.d i j).length≤140737488351232
theorem set_blk {t:TypeId}{w:World}{b:Nat}{cs cs':Array Value}(q:Blk t w b cs)(i:Nat)(v:Value)(e:cs.setIfInBounds i v=cs'):Blk t (w.setCell ⟨b,i,none⟩ v) b cs':=e ▸ q.set i v
def nine (a b c d e f g h i:SL)(r:Nat):SL:=match r with|0=>a|1=>b|2=>c|3=>d|4=>e|5=>f|6=>g|7=>h|_=>i
theorem two_stores {W:World}{lb:Nat}{x0 x1 x2 x3 x4 x5 x6 x7 x8:Value}(q:Blk 65 W lb #[x0,x1,x2,x3,x4,x5,x6,x7,x8])(a b:Value):∃ V7 V8,W.setCell ⟨lb,7,none⟩ a=V7∧V7.setCell ⟨lb,8,none⟩ b=V8∧V7.cell? ⟨lb,8,none⟩=some x8∧V7.frozen? ⟨lb,8,none⟩=false ∧
  Blk 65 V8 lb #[x0,x1,x2,x3,x4,x5,x6,a,b]∧Only lb W V8∧Keeps 73 W V8∧Keeps 24 W V8:=by
 have q7:Blk 65 (W.setCell ⟨lb,7,none⟩ a) lb #[x0,x1,x2,x3,x4,x5,x6,a,x8]:=set_blk q 7 a rfl
 have q8:Blk 65 ((W.setCell ⟨lb,7,none⟩ a).setCell ⟨lb,8,none⟩ b) lb #[x0,x1,x2,x3,x4,x5,x6,a,b]:=set_blk q7 8 b rfl
 have on:=(Only.set lb 7 W a).trans (Only.set lb 8 _ b)
 exact⟨_,_,rfl,rfl,q7.cell 8 rfl,q7.open_ 8,q8,on,Keeps.of_only on q (by decide),Keeps.of_only on q (by decide)⟩
theorem own_walk (d h l v u x t n:Int)(E N O:SL)(La:Option Addr)(ml Lc:Nat)(L:SL)(Y U D:Nat→Nat→SL)(m:ModV)(w:World)(hM:ModAt w E L N O Y U D m)(hF:Fits m)(e1:L.a=La)(hml:m.ln=ml) :
  Calls Tryz.prog 9 #[.agg #[.int .i64 d,.int .i64 h,.int .i64 l,.int .i64 v,.int .i64 u,.int .i64 x,.int .i64 t,.int .i64 n,.slice E.a E.n E.c,.slice La ml Lc,.slice N.a N.n N.c,.slice O.a O.n O.c]] w fun e w'=>∃ E' L' N' O':SL,∃ Y' U' D',e=.returned (.agg #[.int .i64 d,.int .i64 h,.int .i64 l,.int .i64 v,.int .i64 u,.int .i64 x,.int .i64 t,.int .i64 n,.slice E'.a E'.n E'.c,.slice L'.a L'.n L'.c,.slice N'.a N'.n N'.c,.slice O'.a O'.n O'.c])∧NewM w.heap.size w' E' L' N' O' Y' U' D' m∧Below w.heap.size w w':=by
 obtain⟨W0,eW⟩:∃ W0,(w.alloc (.cells #[.int .i64 d,.int .i64 h,.int .i64 l,.int .i64 v,.int .i64 u,.int .i64 x,.int .i64 t,.int .i64 n,.slice E.a E.n E.c,.slice La ml Lc,.slice N.a N.n N.c,.slice O.a O.n O.c] 27)).alloc (.cells #[.int .i64 0,.int .i64 0,.int .i64 0,.int .i64 0,.int .i64 0,.int .i64 0,.int .i64 0,.int .i64 0,(.slice none 0 0),(.slice none 0 0),(.slice none 0 0),(.slice none 0 0)] 27)=W0:=⟨_,rfl⟩
 have hW0:W0.heap.size=w.heap.size+1+1:=by rw[←eW];simp
 have hb:Below w.heap.size w W0:=eW ▸ bNw (bNw (Below.refl _ w) _) _
 have qa:Blk 27 W0 w.heap.size #[.int .i64 d,.int .i64 h,.int .i64 l,.int .i64 v,.int .i64 u,.int .i64 x,.int .i64 t,.int .i64 n,.slice E.a E.n E.c,.slice La ml Lc,.slice N.a N.n N.c,.slice O.a O.n O.c]:=eW ▸ (Blk.new 27 w _).kept (bNw (Below.refl _ _) _)
 have qb:Blk 27 W0 (w.heap.size+1) #[.int .i64 0,.int .i64 0,.int .i64 0,.int .i64 0,.int .i64 0,.int .i64 0,.int .i64 0,.int .i64 0,(.slice none 0 0),(.slice none 0 0),(.slice none 0 0),(.slice none 0 0)]:=eW ▸ Blk.new_at 27 (w.alloc _) _ _ (by simp)
 have hs0:=hb.size
 -- what each copy of a list of the model finds and leaves
 have step:∀ (W:World) (cs:Array Value),Below w.heap.size w W→Blk 27 W w.heap.size cs→Blk 27 W (w.heap.size+1) #[.int .i64 0,.int .i64 0,.int .i64 0,.int .i64 0,.int .i64 0,.int .i64 0,.int .i64 0,.int .i64 0,(.slice none 0 0),(.slice none 0 0),(.slice none 0 0),(.slice none 0 0)]→∃ A,W.alloc (.cells #[] 73)=A∧Below w.heap.size w A∧Blk 27 A w.heap.size cs∧Blk 27 A (w.heap.size+1) #[.int .i64 0,.int .i64 0,.int .i64 0,.int .i64 0,.int .i64 0,.int .i64 0,.int .i64 0,.int .i64 0,(.slice none 0 0),(.slice none 0 0),(.slice none 0 0),(.slice none 0 0)]∧Blk 73 A W.heap.size #[]∧w.heap.size≤W.heap.size∧Below W.heap.size W A:=fun W cs h1 h2 h3 =>
  ⟨_,rfl,bNw h1 _,h2.kept (bNw (Below.refl _ _) _),h3.kept (bNw (Below.refl _ _) _),Blk.new 73 W #[],h1.size,bNw (Below.refl _ _) _⟩
 have put:∀ (W:World) (cs cs':Array Value) (i:Nat) (v:Value),Below w.heap.size w W→Blk 27 W w.heap.size cs→Blk 27 W (w.heap.size+1) #[.int .i64 0,.int .i64 0,.int .i64 0,.int .i64 0,.int .i64 0,.int .i64 0,.int .i64 0,.int .i64 0,(.slice none 0 0),(.slice none 0 0),(.slice none 0 0),(.slice none 0 0)]→cs.setIfInBounds i v=cs'→∃ V,W.setCell ⟨w.heap.size,i,none⟩ v=V∧Below w.heap.size w V∧Blk 27 V w.heap.size cs'∧Blk 27 V (w.heap.size+1) #[.int .i64 0,.int .i64 0,.int .i64 0,.int .i64 0,.int .i64 0,.int .i64 0,.int .i64 0,.int .i64 0,(.slice none 0 0),(.slice none 0 0),(.slice none 0 0),(.slice none 0 0)]∧Keeps 73 W V:=fun W cs cs' i v h1 h2 h3 e =>
  ⟨_,rfl,h1.setCell (Nat.le_refl _) _,set_blk h2 i v e,h3.other _ (by simp),Keeps.of_only (Only.set _ _ _ _) h2 (by decide)⟩
 have STEP:=hdn step
 have PUT:=hdn put
 have HM:=hdn hM
 have HF:=hdn hF
 have HL:=hdn (And.intro e1 hml)
 obtain⟨A1,eA1,bA1,pa,pb,pg,pl',pbb⟩:=step W0 _ hb qa qb
 clear step put hM hF e1 hml qa qb hs0 hW0
 obtain⟨a0,a1,a2,a3,a4,a5,a6,a7,a8,a9,a10,a11⟩:=pa.c12
 go_enter Tryz.func9,Tryz.ntmps9
 go_wp2_with (first
  | (at_builtin;refine wpList_copy_ts rfl (.tmp 10) (.tmp 12) rfl w.heap.size W0.heap.size E m.e rfl rfl (HM.out.below bA1).e (by have:=HF.out.e;omega) pl' pg bA1.size ?_;intro E' w1 h1 tE;obtain⟨V1,eV1,bV1,qa,qb,kV1⟩:=PUT.out w1 _ #[.int .i64 d,.int .i64 h,.int .i64 l,.int .i64 v,.int .i64 u,.int .i64 x,.int .i64 t,.int .i64 n,.slice E'.a E'.n E'.c,.slice La ml Lc,.slice N.a N.n N.c,.slice O.a O.n O.c] 8 (.slice E'.a E'.n E'.c) (bTn bA1 h1) (pa.kept h1) (pb.kept h1) rfl;replace tE:=tE.step kV1;have z8:=(pa.kept h1).cell 8 rfl;have o8:=(pa.kept h1).open_ 8;obtain⟨A2,eA2,bA2,pa2,pb2,pg2,pl2,pbb2⟩:=STEP.out V1 _ bV1 qa qb;replace tE:=tE.below pbb2;clear pa pb pg pl' pbb h1 kV1 qa qb eA1 eW a0 a1 a2 a3 a4 a5 a6 a7 a8 a9 a10 a11;obtain⟨a0,a1,a2,a3,a4,a5,a6,a7,a8,a9,a10,a11⟩:=pa2.c12)
  | (at_builtin;refine wpList_copy_ts rfl (.tmp 15) (.tmp 17) rfl w.heap.size V1.heap.size N m.nm rfl rfl (HM.out.below bA2).nm (by have:=HF.out.nm;omega) pl2 pg2 bA2.size ?_;intro N' w2 h2 tN;obtain⟨V2,eV2,bV2,qa,qb,kV2⟩:=PUT.out w2 _ #[.int .i64 d,.int .i64 h,.int .i64 l,.int .i64 v,.int .i64 u,.int .i64 x,.int .i64 t,.int .i64 n,.slice E'.a E'.n E'.c,.slice La ml Lc,.slice N'.a N'.n N'.c,.slice O.a O.n O.c] 10 (.slice N'.a N'.n N'.c) (bTn bA2 h2) (pa2.kept h2) (pb2.kept h2) rfl;replace tE:=(tE.below h2).step kV2;replace tN:=tN.step kV2;have z10:=(pa2.kept h2).cell 10 rfl;have o10:=(pa2.kept h2).open_ 10;obtain⟨A3,eA3,bA3,pa3,pb3,pg3,pl3,pbb3⟩:=STEP.out V2 _ bV2 qa qb;replace tE:=tE.below pbb3;replace tN:=tN.below pbb3;clear pa2 pb2 pg2 pl2 pbb2 h2 kV2 qa qb eA2 z8 o8 eV1 a0 a1 a2 a3 a4 a5 a6 a7 a8 a9 a10 a11;obtain⟨a0,a1,a2,a3,a4,a5,a6,a7,a8,a9,a10,a11⟩:=pa3.c12)
  | (at_builtin;refine wpList_copy_ts rfl (.tmp 20) (.tmp 22) rfl w.heap.size V2.heap.size O m.o rfl rfl (HM.out.below bA3).o (by have:=HF.out.o;omega) pl3 pg3 bA3.size ?_;intro O' w3 h3 tO;obtain⟨V3,eV3,bV3,qa,qb,kV3⟩:=PUT.out w3 _ #[.int .i64 d,.int .i64 h,.int .i64 l,.int .i64 v,.int .i64 u,.int .i64 x,.int .i64 t,.int .i64 n,.slice E'.a E'.n E'.c,.slice La ml Lc,.slice N'.a N'.n N'.c,.slice O'.a O'.n O'.c] 11 (.slice O'.a O'.n O'.c) (bTn bA3 h3) (pa3.kept h3) (pb3.kept h3) rfl;replace tE:=(tE.below h3).step kV3;replace tN:=(tN.below h3).step kV3;replace tO:=tO.step kV3;have z11:=(pa3.kept h3).cell 11 rfl;have o11:=(pa3.kept h3).open_ 11;clear pa3 pb3 pg3 pl3 pbb3 h3 kV3 eA3 z10 o10 eV2 a0 a1 a2 a3 a4 a5 a6 a7 a8 a9 a10 a11;obtain⟨a0,a1,a2,a3,a4,a5,a6,a7,a8,a9,a10,a11⟩:=qa.c12))
 have s3:=bV3.size
 have HV:=hdn (And.intro bV3 (And.intro qa (And.intro qb (And.intro tE (And.intro tN tO)))))
 have Hml:ml≤20:=by have:=HF.out.ln;have:=HL.out.2;omega
 clear a0 a1 a2 a3 a4 a5 a6 a7 a8 a9 a10 a11 z11 o11 eV3 bA1 bV1 bA2 bV2 bA3 qa qb tE tN tO bV3 hb STEP PUT
 go_loopw [3,4,5,6,7,8,9] (fun v3 i _ _ _ _ _ wr=>∃ k:Nat,k≤ml∧i=.int .i64 k∧Below V3.heap.size V3 wr∧∃ Y' U' D':Nat→Nat→SL,TL V3.heap.size wr v3 k Y' U' D' m) (fun _ i _ _ _ _ _ _=>ml-(intOf i).toNat)
 case atStart=>exact⟨0,Nat.zero_le _,rfl,Below.refl _ _,fun _ _=>SL.nought,fun _ _=>SL.nought,fun _ _=>SL.nought,TL.nil _ _ _ _ _ _⟩
 case round =>
  obtain⟨k,hk,rfl,hbr,Y',U',D',tL⟩:=hrel
  obtain⟨WR,eWR⟩:∃ WR,WR=wr:=⟨_,rfl⟩
  subst eWR
  obtain⟨bV3,qa,qb,tE,tN,tO⟩:=HV.out
  have hbw:=bTn bV3 hbr
  obtain⟨a0,a1,a2,a3,a4,a5,a6,a7,a8,a9,a10,a11⟩:=(qa.kept hbr).c12
  by_cases hlt:k<ml
  ·have hMr:=HM.out.below hbw
   have hkm:k<m.ln:=by rw[HL.out.2];exact hlt
   obtain⟨x0,hx0⟩:=hMr.some_ (by omega)
   obtain rfl:La=some x0:=HL.out.1.symm.trans hx0
   have la:=hMr.lay k hkm
   obtain⟨P,eP,p0,p1,p2,p3,p4,p5,p6,p7,p8⟩:=at_nine (fun j hj=>hMr.cell x0 hx0 k hkm j hj)
   have hlt':(k:Int)<(ml:Int):=by omega
   have srs:=hbr.size
   have HB:=hdn (And.intro hbw hbr)
   have HLA:=hdn la
   have HT:=hdn tL
   have HS:=hdn srs
   clear hMr hbw hbr la tL bV3 qa qb tE tN tO srs
   go_wp2
   have q5:=Blk.new 65 WR #[.slice (Y k 0).a (Y k 0).n (Y k 0).c,.slice (Y k 1).a (Y k 1).n (Y k 1).c,.slice (Y k 2).a (Y k 2).n (Y k 2).c,.slice (Y k 3).a (Y k 3).n (Y k 3).c,.slice (Y k 4).a (Y k 4).n (Y k 4).c,.slice (Y k 5).a (Y k 5).n (Y k 5).c,.slice (Y k 6).a (Y k 6).n (Y k 6).c,.slice (Y k 7).a (Y k 7).n (Y k 7).c,.slice (Y k 8).a (Y k 8).n (Y k 8).c]
   obtain⟨W1,e1⟩:∃ W1,WR.alloc (.cells #[.slice (Y k 0).a (Y k 0).n (Y k 0).c,.slice (Y k 1).a (Y k 1).n (Y k 1).c,.slice (Y k 2).a (Y k 2).n (Y k 2).c,.slice (Y k 3).a (Y k 3).n (Y k 3).c,.slice (Y k 4).a (Y k 4).n (Y k 4).c,.slice (Y k 5).a (Y k 5).n (Y k 5).c,.slice (Y k 6).a (Y k 6).n (Y k 6).c,.slice (Y k 7).a (Y k 7).n (Y k 7).c,.slice (Y k 8).a (Y k 8).n (Y k 8).c] 65)=W1:=⟨_,rfl⟩
   have bW1:Below WR.heap.size WR W1:=e1 ▸ bNw (Below.refl _ _) _
   rw[e1] at q5 ⊢
   have la1:=HLA.out.below bW1
   have far:∀ j,j<7→∀ x,(Y k j).a=some x→0<(Y k j).n→x.block≠WR.heap.size:=fun j hj x hx h0=>by
    have c:=(HLA.out.f j hj).reads.cell x hx 0 h0
    have:=World.block_lt_of_cell? _ _ c
    simp[Addr.add] at this
    omega
   clear e1 p0 p1 p2 p3 p4 p5 p6 p7 p8 a0 a1 a2 a3 a4 a5 a6 a7 a8 a9 a10 a11
   refine copies_region 3 37 0 WR.heap.size (Y k) (m.f k) (fun f=>(Y k f).v) #[.slice (Y k 0).a (Y k 0).n (Y k 0).c,.slice (Y k 1).a (Y k 1).n (Y k 1).c,.slice (Y k 2).a (Y k 2).n (Y k 2).c,.slice (Y k 3).a (Y k 3).n (Y k 3).c,.slice (Y k 4).a (Y k 4).n (Y k 4).c,.slice (Y k 5).a (Y k 5).n (Y k 5).c,.slice (Y k 6).a (Y k 6).n (Y k 6).c,.slice (Y k 7).a (Y k 7).n (Y k 7).c,.slice (Y k 8).a (Y k 8).n (Y k 8).c] (by kernel_rfl) rfl (fun j hj=>by rcases (show j=0∨j=1∨j=2 by omega) with rfl|rfl|rfl<;>exact⟨⟨_,rfl,rfl,rfl,rfl,by kernel_rfl⟩,⟨_,rfl,rfl,rfl,rfl,by kernel_rfl⟩,⟨_,rfl,rfl,rfl,rfl,by kernel_rfl⟩,⟨_,rfl,rfl,rfl,rfl,by kernel_rfl⟩,⟨_,rfl,rfl,rfl,rfl,by kernel_rfl⟩,⟨_,rfl,rfl,rfl,rfl,by kernel_rfl⟩⟩) rfl (by decide) (Nat.le_of_ble_eq_true rfl) (by decide) q5 rfl
    (fun f hf=>by rcases (show f=0∨f=1∨f=2∨f=3∨f=4∨f=5∨f=6∨f=7∨f=8 by omega) with rfl|rfl|rfl|rfl|rfl|rfl|rfl|rfl|rfl<;>rfl)
    (fun j hj=>⟨by rw[Nat.zero_add],la1.f j (by omega),by have:=HF.out.f k hkm j (by omega);omega,far j (by omega)⟩) ?_
   intro a W2 S cs hs hd hkp honly hq hcz hcell hts
   obtain rfl:=arr9 hcz hcell
   have q9:Blk 65 W2 WR.heap.size #[.slice (S 0).a (S 0).n (S 0).c,.slice (S 1).a (S 1).n (S 1).c,.slice (S 2).a (S 2).n (S 2).c,.slice (Y k 3).a (Y k 3).n (Y k 3).c,.slice (Y k 4).a (Y k 4).n (Y k 4).c,.slice (Y k 5).a (Y k 5).n (Y k 5).c,.slice (Y k 6).a (Y k 6).n (Y k 6).c,.slice (Y k 7).a (Y k 7).n (Y k 7).c,.slice (Y k 8).a (Y k 8).n (Y k 8).c]:=hq
   have bW2:Below WR.heap.size WR W2:=Only.below bW1 (Nat.le_refl _) bW1.size honly
   have ep:=fPu [37,38,39,40,41,42,43,44,45,46,47,48,49,50,51] hs hd (fun s h=>hkp s (by simp at h;omega))
   simp only[List.foldl] at ep
   clear hs hd hkp hq hcz hcell
   generalize a.tmps.getD 37 undef=g37,a.tmps.getD 38 undef=g38,a.tmps.getD 39 undef=g39,a.tmps.getD 40 undef=g40,a.tmps.getD 41 undef=g41,a.tmps.getD 42 undef=g42,a.tmps.getD 43 undef=g43,a.tmps.getD 44 undef=g44,a.tmps.getD 45 undef=g45,a.tmps.getD 46 undef=g46,a.tmps.getD 47 undef=g47,a.tmps.getD 48 undef=g48,a.tmps.getD 49 undef=g49,a.tmps.getD 50 undef=g50,a.tmps.getD 51 undef=g51 at ep
   simp only[Act.put,List.setIfInBounds_toArray,List.set_cons_succ,List.set_cons_zero] at ep
   subst ep
   have la2:=HLA.out.below bW2
   have t0:=(hts 0 (by decide)).le bW1.size
   have t1:=(hts 1 (by decide)).le bW1.size
   have t2:=(hts 2 (by decide)).le bW1.size
   clear la1 hts honly q5 bW1
   go_wp2
   refine copies_region 4 52 3 WR.heap.size (fun j=>Y k (3+j)) (fun j=>m.f k (3+j)) (fun f=>if f<3 then (S f).v else (Y k f).v) #[.slice (S 0).a (S 0).n (S 0).c,.slice (S 1).a (S 1).n (S 1).c,.slice (S 2).a (S 2).n (S 2).c,.slice (Y k 3).a (Y k 3).n (Y k 3).c,.slice (Y k 4).a (Y k 4).n (Y k 4).c,.slice (Y k 5).a (Y k 5).n (Y k 5).c,.slice (Y k 6).a (Y k 6).n (Y k 6).c,.slice (Y k 7).a (Y k 7).n (Y k 7).c,.slice (Y k 8).a (Y k 8).n (Y k 8).c] (by kernel_rfl) rfl (fun j hj=>by rcases (show j=0∨j=1∨j=2∨j=3 by omega) with rfl|rfl|rfl|rfl<;>exact⟨⟨_,rfl,rfl,rfl,rfl,by kernel_rfl⟩,⟨_,rfl,rfl,rfl,rfl,by kernel_rfl⟩,⟨_,rfl,rfl,rfl,rfl,by kernel_rfl⟩,⟨_,rfl,rfl,rfl,rfl,by kernel_rfl⟩,⟨_,rfl,rfl,rfl,rfl,by kernel_rfl⟩,⟨_,rfl,rfl,rfl,rfl,by kernel_rfl⟩⟩) rfl (by decide) (Nat.le_of_ble_eq_true rfl) (by decide) q9 rfl
    (fun f hf=>by rcases (show f=0∨f=1∨f=2∨f=3∨f=4∨f=5∨f=6∨f=7∨f=8 by omega) with rfl|rfl|rfl|rfl|rfl|rfl|rfl|rfl|rfl<;>rfl)
    (fun j hj=>⟨if_neg (by omega),la2.f (3+j) (by omega),by have:=HF.out.f k hkm (3+j) (by omega);omega,far (3+j) (by omega)⟩) ?_
   intro a W3 T cs hs hd hkp honly hq hcz hcell hts
   obtain rfl:=arr9 hcz hcell
   have q10:Blk 65 W3 WR.heap.size #[.slice (S 0).a (S 0).n (S 0).c,.slice (S 1).a (S 1).n (S 1).c,.slice (S 2).a (S 2).n (S 2).c,.slice (T 0).a (T 0).n (T 0).c,.slice (T 1).a (T 1).n (T 1).c,.slice (T 2).a (T 2).n (T 2).c,.slice (T 3).a (T 3).n (T 3).c,.slice (Y k 7).a (Y k 7).n (Y k 7).c,.slice (Y k 8).a (Y k 8).n (Y k 8).c]:=hq
   have bW3:Below WR.heap.size WR W3:=Only.below bW2 (Nat.le_refl _) bW2.size honly
   have ep:=fPu [52,53,54,55,56,57,58,59,60,61,62,63,64,65,66,67,68,69,70,71] hs hd (fun s h=>hkp s (by simp at h;omega))
   simp only[List.foldl] at ep
   have kp:Keeps 73 W2 W3:=Keeps.of_only honly q9 (by decide)
   clear hs hd hkp hq hcz hcell
   generalize a.tmps.getD 52 undef=g52,a.tmps.getD 53 undef=g53,a.tmps.getD 54 undef=g54,a.tmps.getD 55 undef=g55,a.tmps.getD 56 undef=g56,a.tmps.getD 57 undef=g57,a.tmps.getD 58 undef=g58,a.tmps.getD 59 undef=g59,a.tmps.getD 60 undef=g60,a.tmps.getD 61 undef=g61,a.tmps.getD 62 undef=g62,a.tmps.getD 63 undef=g63,a.tmps.getD 64 undef=g64,a.tmps.getD 65 undef=g65,a.tmps.getD 66 undef=g66,a.tmps.getD 67 undef=g67,a.tmps.getD 68 undef=g68,a.tmps.getD 69 undef=g69,a.tmps.getD 70 undef=g70,a.tmps.getD 71 undef=g71 at ep
   simp only[Act.put,List.setIfInBounds_toArray,List.set_cons_succ,List.set_cons_zero] at ep
   subst ep
   replace t0:=t0.step kp
   replace t1:=t1.step kp
   replace t2:=t2.step kp
   have t3:=(hts 0 (by decide)).le bW2.size
   have t4:=(hts 1 (by decide)).le bW2.size
   have t5:=(hts 2 (by decide)).le bW2.size
   have t6:=(hts 3 (by decide)).le bW2.size
   have la3:=HLA.out.below bW3
   clear la2 hts honly q9 bW2 kp far
   obtain⟨lb,elb⟩:∃ lb,WR.heap.size=lb:=⟨_,rfl⟩
   rw[elb] at q10 ⊢
   have ELB:=hdn elb
   clear elb
   go_wp2
   have lenu:=la3.u.len
   obtain⟨un,eun⟩:∃ z,m.un k=z:=⟨_,rfl⟩
   go_loopw [6,8] (fun v i wr=>∃ j:Nat,j≤un∧i=.int .i64 j∧Below W3.heap.size W3 wr∧∃ R:Nat→SL,TG W3.heap.size wr v j R (m.u k)) (fun _ i _=>un-(intOf i).toNat)
   case atStart=>exact⟨0,Nat.zero_le _,rfl,Below.refl _ _,fun _=>SL.nought,TG.nil _ _ _ _⟩
   case round =>
    obtain⟨j,hj,rfl,hb2,Ru,tG⟩:=hrel
    have sB:=hb2.size
    by_cases hlt2:j<un
    ·have la:=la3.below hb2
     obtain⟨x7,hx7⟩:=la.u.some_ (by omega)
     have q:=q10.kept hb2
     rw[hx7,lenu,eun] at q
     have hlt2':(j:Int)<(un:Int):=by omega
     have hun24:=HF.out.un k hkm
     rw[eun] at hun24
     have hun63:un≤9223372036854775807:=by omega
     have cf:=q.cell 7 rfl
     obtain⟨A,eA⟩:∃ A,wr.alloc (.cells #[] 73)=A:=⟨_,rfl⟩
     have bA:Below wr.heap.size wr A:=eA ▸ bNw (Below.refl _ _) _
     have gA:Blk 73 A wr.heap.size #[]:=eA ▸ Blk.new 73 wr #[]
     have cfA:=(q.kept bA).cell 7 rfl
     have cU:=(la.u.below bA).cell x7 hx7 j (by omega)
     have cU':A.cell? (x7.add j)=some (.slice (U k j).a (U k j).n (U k j).c):=cU
     have isU:=(la.u.below bA).row j (by omega)
     have fU:=HF.out.u k hkm j (by omega)
     clear cU la q hx7 lenu eun
     go_wp2_with (first
      | (at_builtin;refine wpList_copy_ts rfl (.tmp 80) (.tmp 85) rfl W3.heap.size wr.heap.size (U k j) (m.u k j) rfl rfl isU (by omega) sB gA (Nat.le_trans sB bA.size) ?_;intro s' w4 h4 ts4;obtain⟨A2,eA2⟩:∃ A2,w4.alloc (.cells #[.slice s'.a s'.n s'.c] 24)=A2:=⟨_,rfl⟩;have bA2:Below w4.heap.size w4 A2:=eA2 ▸ bNw (Below.refl _ _) _;have gA2:Blk 24 A2 w4.heap.size #[.slice s'.a s'.n s'.c]:=eA2 ▸ Blk.new 24 w4 _;have cA2:A2.cell? ⟨w4.heap.size,0,none⟩=some s'.v:=gA2.cell 0 rfl;have bb:=bTn (bTn bA h4) bA2;have tG2:=tG.below (B':=0) bb;replace ts4:=ts4.below bA2;clear bA gA cfA cU' isU fU eA h4 bA2 gA2)
      | (at_builtin;refine wpList_push rfl (.tmp 79) (.tmp 87) rfl W3.heap.size j _ Ru (m.u k) s' w4.heap.size 1 rfl rfl tG2 cA2 ts4 (by omega) (Nat.le_trans sB bb.size) ?_;intro v' w5 hb5 _ _ tG5;have hbE:=(bTn hb2 bb).trans hb5;clear hb5 bb tG2 cA2 ts4 eA2))
     go_roundw
     case rel=>exact⟨j+1,by omega,by go_num,hbE,_,tG5⟩
     case measure=>simp[intOf];omega
    ·obtain rfl:un=j:=by omega
     have bWu:=hb2
     have qu:=q10.kept hb2
     have cf:=qu.cell 7 rfl
     rw[lenu,eun] at cf
     have hun24:=HF.out.un k hkm
     rw[eun] at hun24
     have hun63:un≤9223372036854775807:=by omega
     have tGu:=tG
     clear tG
     rw[lenu,eun] at qu
     have la4:=la3.below hb2
     obtain⟨W4,eW4⟩:∃ W4,W4=wr:=⟨_,rfl⟩
     subst eW4
     have HX:=hdn (And.intro lenu (And.intro eun tGu))
     clear lenu eun tGu hb2 hj hlt2 sB hun24 hun63 la3
     go_wp2
     have lend:=la4.d.len
     obtain⟨dn,edn⟩:∃ z,m.dn k=z:=⟨_,rfl⟩
     go_loopw [7,9] (fun v i wr=>∃ j:Nat,j≤dn∧i=.int .i64 j∧Below W4.heap.size W4 wr∧∃ R:Nat→SL,TG W4.heap.size wr v j R (m.d k)) (fun _ i _=>dn-(intOf i).toNat)
     case atStart=>exact⟨0,Nat.zero_le _,rfl,Below.refl _ _,fun _=>SL.nought,TG.nil _ _ _ _⟩
     case round =>
      obtain⟨j,hj,rfl,hb2,Rd,tG⟩:=hrel
      have sB:=hb2.size
      by_cases hlt2:j<dn
      ·have la:=la4.below hb2
       obtain⟨x7,hx7⟩:=la.d.some_ (by omega)
       have q:=qu.kept hb2
       rw[hx7,lend,edn] at q
       have hlt2':(j:Int)<(dn:Int):=by omega
       have hun24:=HF.out.dn k hkm
       rw[edn] at hun24
       have hun63:dn≤9223372036854775807:=by omega
       have cf:=q.cell 8 rfl
       obtain⟨A,eA⟩:∃ A,wr.alloc (.cells #[] 73)=A:=⟨_,rfl⟩
       have bA:Below wr.heap.size wr A:=eA ▸ bNw (Below.refl _ _) _
       have gA:Blk 73 A wr.heap.size #[]:=eA ▸ Blk.new 73 wr #[]
       have cfA:=(q.kept bA).cell 8 rfl
       have cU:=(la.d.below bA).cell x7 hx7 j (by omega)
       have cU':A.cell? (x7.add j)=some (.slice (D k j).a (D k j).n (D k j).c):=cU
       have isU:=(la.d.below bA).row j (by omega)
       have fU:=HF.out.d k hkm j (by omega)
       clear cU la q hx7 lend edn
       go_wp2_with (first
        | (at_builtin;refine wpList_copy_ts rfl (.tmp 97) (.tmp 102) rfl W4.heap.size wr.heap.size (D k j) (m.d k j) rfl rfl isU (by omega) sB gA (Nat.le_trans sB bA.size) ?_;intro s' w4 h4 ts4;obtain⟨A2,eA2⟩:∃ A2,w4.alloc (.cells #[.slice s'.a s'.n s'.c] 24)=A2:=⟨_,rfl⟩;have bA2:Below w4.heap.size w4 A2:=eA2 ▸ bNw (Below.refl _ _) _;have gA2:Blk 24 A2 w4.heap.size #[.slice s'.a s'.n s'.c]:=eA2 ▸ Blk.new 24 w4 _;have cA2:A2.cell? ⟨w4.heap.size,0,none⟩=some s'.v:=gA2.cell 0 rfl;have bb:=bTn (bTn bA h4) bA2;have tG2:=tG.below (B':=0) bb;replace ts4:=ts4.below bA2;clear bA gA cfA cU' isU fU eA h4 bA2 gA2)
        | (at_builtin;refine wpList_push rfl (.tmp 96) (.tmp 104) rfl W4.heap.size j _ Rd (m.d k) s' w4.heap.size 1 rfl rfl tG2 cA2 ts4 (by omega) (Nat.le_trans sB bb.size) ?_;intro v' w5 hb5 _ _ tG5;have hbE:=(bTn hb2 bb).trans hb5;clear hb5 bb tG2 cA2 ts4 eA2))
       go_roundw
       case rel=>exact⟨j+1,by omega,by go_num,hbE,_,tG5⟩
       case measure=>simp[intOf];omega
      ·obtain rfl:dn=j:=by omega
       have bWd:=hb2
       have qd:=qu.kept hb2
       have cf:=qd.cell 8 rfl
       rw[lend,edn] at cf
       have hun24:=HF.out.dn k hkm
       rw[edn] at hun24
       have hun63:dn≤9223372036854775807:=by omega
       have tGd:=tG
       clear tG
       obtain⟨W5,eW5⟩:∃ W5,W5=wr:=⟨_,rfl⟩
       subst eW5
       obtain⟨lenu,eun,tGu⟩:=HX.out
       obtain⟨sU,eU,-⟩:=(tGu.below (B':=0) bWd).new
       obtain⟨sD,eD,-⟩:=tGd.new
       have eU2:_=Value.slice sU.a sU.n sU.c:=eU
       have eD2:_=Value.slice sD.a sD.n sD.c:=eD
       subst eU2
       subst eD2
       obtain⟨V7,V8,eV7,eV8,z8,o8,q8,on8,k46,k26⟩:=two_stores qd (.slice sU.a sU.n sU.c) (.slice sD.a sD.n sD.c)
       have z7:=qd.cell 7 rfl
       have o7:=qd.open_ 7
       obtain⟨A3,eA3⟩:∃ A,V8.alloc (.cells #[.slice (S 0).a (S 0).n (S 0).c,.slice (S 1).a (S 1).n (S 1).c,.slice (S 2).a (S 2).n (S 2).c,.slice (T 0).a (T 0).n (T 0).c,.slice (T 1).a (T 1).n (T 1).c,.slice (T 2).a (T 2).n (T 2).c,.slice (T 3).a (T 3).n (T 3).c,.slice sU.a sU.n sU.c,.slice sD.a sD.n sD.c] 65)=A:=⟨_,rfl⟩
       have bA3:Below V8.heap.size V8 A3:=eA3 ▸ bNw (Below.refl _ _) _
       have gA3:Blk 65 A3 V8.heap.size #[.slice (S 0).a (S 0).n (S 0).c,.slice (S 1).a (S 1).n (S 1).c,.slice (S 2).a (S 2).n (S 2).c,.slice (T 0).a (T 0).n (T 0).c,.slice (T 1).a (T 1).n (T 1).c,.slice (T 2).a (T 2).n (T 2).c,.slice (T 3).a (T 3).n (T 3).c,.slice sU.a sU.n sU.c,.slice sD.a sD.n sD.c]:=eA3 ▸ Blk.new 65 V8 _
       have b5:Below lb WR W5:=by rw[←ELB.out];exact bTn (bTn bW3 bWu) bWd
       have b8:Below lb WR V8:=by
        refine Only.below b5 (Nat.le_refl _) ?_ on8
        rw[←ELB.out];exact (bTn (bTn bW3 bWu) bWd).size
       have bA:Below WR.heap.size WR A3:=bTn (by rw[ELB.out];exact b8) bA3
       have K46:Keeps 73 W3 A3:=((Keeps.of_below (bTn bWu bWd)).trans k46).trans (Keeps.of_below bA3)
       have tU:=(((tGu.below (B':=0) bWd).step k46 k26).below (B':=0) bA3).le (Nat.le_trans HS.out bW3.size)
       have tD:=((tGd.step k46 k26).below (B':=0) bA3).le (Nat.le_trans (Nat.le_trans HS.out bW3.size) bWu.size)
       have tL:=HT.out.below bA
       have s0:=(t0.step K46).le HS.out
       have s1:=(t1.step K46).le HS.out
       have s2:=(t2.step K46).le HS.out
       have s3':=(t3.step K46).le HS.out
       have s4:=(t4.step K46).le HS.out
       have s5:=(t5.step K46).le HS.out
       have s6:=(t6.step K46).le HS.out
       rw[←eun] at tU
       rw[←edn] at tD
       have hY:TY V3.heap.size A3 (nine (S 0) (S 1) (S 2) (T 0) (T 1) (T 2) (T 3) sU sD) Ru Rd (m.f k) (m.un k) (m.dn k) (m.u k) (m.d k):=⟨fun j hj=>by rcases (show j=0∨j=1∨j=2∨j=3∨j=4∨j=5∨j=6 by omega) with rfl|rfl|rfl|rfl|rfl|rfl|rfl<;>assumption,tU,tD⟩
       have gA:Blk 65 A3 V8.heap.size ((List.range 9).map fun r=>(nine (S 0) (S 1) (S 2) (T 0) (T 1) (T 2) (T 3) sU sD r).v).toArray:=gA3
       have c0:=q8.cell 0 rfl
       have c1:=q8.cell 1 rfl
       have c2:=q8.cell 2 rfl
       have c3:=q8.cell 3 rfl
       have c4:=q8.cell 4 rfl
       have c5:=q8.cell 5 rfl
       have c6:=q8.cell 6 rfl
       have c7:=q8.cell 7 rfl
       have c8:=q8.cell 8 rfl
       have hbE:=bTn HB.out.2 bA
       clear tU tD s0 s1 s2 s3' s4 s5 s6 t0 t1 t2 t3 t4 t5 t6 tGu tGd eU eD b5 b8 bA K46 k46 k26 on8 bA3 gA3 lenu eun lend edn HX hlt2 hj hun24 la4 bWu bWd bW3 qu
       go_wp2_with (first
        | (at_builtin;refine wpList_layer rfl (.tmp 110) (.tmp 112) rfl V3.heap.size k _ Y' U' D' m _ Ru Rd V8.heap.size 1 rfl rfl tL gA hY (by omega) hbE.size ?_;intro v' w6 hb6 tL6;have hbF:=hbE.trans hb6;clear hb6 tL gA hY hbE))
       go_roundw
       case rel=>exact⟨k+1,by omega,by go_num,hbF,_,_,_,tL6⟩
       case measure=>simp[intOf];omega
  ·have ek:k=ml:=by omega
   have tL':=tL.le bV3.size
   rw[show k=m.ln from ek.trans HL.out.2.symm] at tL'
   obtain⟨L',eL,-⟩:=tL'.new ((tE.below hbr)) (tN.below hbr) (tO.below hbr)
   have eL2:_=Value.slice L'.a L'.n L'.c:=eL
   subst eL2
   have qm:=qa.kept hbr
   have qr:=qb.kept hbr
   have z9:=qm.cell 9 rfl
   have o9:=qm.open_ 9
   obtain⟨V9,eV9⟩:∃ V,WR.setCell ⟨w.heap.size,9,none⟩ (.slice L'.a L'.n L'.c)=V:=⟨_,rfl⟩
   have on9:Only w.heap.size WR V9:=eV9 ▸ Only.set _ _ _ _
   have q9:Blk 27 V9 w.heap.size #[.int .i64 d,.int .i64 h,.int .i64 l,.int .i64 v,.int .i64 u,.int .i64 x,.int .i64 t,.int .i64 n,.slice E'.a E'.n E'.c,.slice L'.a L'.n L'.c,.slice N'.a N'.n N'.c,.slice O'.a O'.n O'.c]:=eV9 ▸ set_blk qm 9 _ rfl
   have qr9:Blk 27 V9 (w.heap.size+1) #[.int .i64 0,.int .i64 0,.int .i64 0,.int .i64 0,.int .i64 0,.int .i64 0,.int .i64 0,.int .i64 0,(.slice none 0 0),(.slice none 0 0),(.slice none 0 0),(.slice none 0 0)]:=eV9 ▸ qr.other _ (by simp)
   have FIN:Hid (∀ W6,Only (w.heap.size+1) V9 W6→NewM w.heap.size W6 E' L' N' O' Y' U' D' m∧Below w.heap.size w W6):=fun W6 only=>by
    have K:∀ t,t≠27→Keeps t WR W6:=fun t ht=>(Keeps.of_only on9 qm ht).trans (Keeps.of_only only qr9 ht)
    have tL6:TL w.heap.size W6 (.slice L'.a L'.n L'.c) m.ln Y' U' D' m:=⟨(K 65 (by decide)).own tL'.own,fun i hi=>(tL'.lay i hi).step (K 73 (by decide)) (K 24 (by decide))⟩
    obtain⟨L2,eL2,hN⟩:=tL6.new ((tE.below hbr).step (K 73 (by decide))) ((tN.below hbr).step (K 73 (by decide))) ((tO.below hbr).step (K 73 (by decide)))
    obtain rfl:L'=L2:=SL.v_inj eL2
    have b9:=Only.below hbw (Nat.le_refl _) hbw.size on9
    exact⟨hN,Only.below b9 (by omega) b9.size only⟩
   obtain⟨c0,c1,c2,c3,c4,c5,c6,c7,c8,c9,c10,c11⟩:=q9.c12
   obtain⟨r0,r1,r2,r3,r4,r5,r6,r7,r8,r9,r10,r11⟩:=qr9.c12
   obtain⟨f0,f1,f2,f3,f4,f5,f6,f7,f8,f9,f10,f11⟩:=qr9.o12
   have hge:¬((k:Int)<(ml:Int)):=by omega
   have hge':decide ((k:Int)<(ml:Int))=false:=by simp;omega
   clear tL tL' eL qm qr qa qb bV3 tE tN tO hbr hbw on9 q9 ek
   go_wp2
   obtain⟨W6,eW6,q6,only,hz⟩:=set12 qr9 (.int .i64 d) (.int .i64 h) (.int .i64 l) (.int .i64 v) (.int .i64 u) (.int .i64 x) (.int .i64 t) (.int .i64 n) (.slice E'.a E'.n E'.c) (.slice L'.a L'.n L'.c) (.slice N'.a N'.n N'.c) (.slice O'.a O'.n O'.c)
   rw[eW6]
   obtain⟨g1,g2⟩:=FIN.out W6 only
   refine bodyPost_ret (v:=.agg #[.int .i64 d,.int .i64 h,.int .i64 l,.int .i64 v,.int .i64 u,.int .i64 x,.int .i64 t,.int .i64 n,.slice E'.a E'.n E'.c,.slice L'.a L'.n L'.c,.slice N'.a N'.n N'.c,.slice O'.a O'.n O'.c]) ?_ rfl ⟨E',L',N',O',rfl,⟨Y',U',D',g1⟩,g2⟩
   obtain⟨y0,y1,y2,y3,y4,y5,y6,y7,y8,y9,y10,y11⟩:=q6.c12
   simp[results,Tryz.results9,go_sem,y0,y1,y2,y3,y4,y5,y6,y7,y8,y9,y10,y11]
theorem own_call (d h l v u x t n:Int)(E L N O:SL)(Y U D:Nat→Nat→SL)(m:ModV)(w:World)(hM:ModAt w E L N O Y U D m)(hF:Fits m) :
  Calls Tryz.prog 9 #[.agg #[.int .i64 d,.int .i64 h,.int .i64 l,.int .i64 v,.int .i64 u,.int .i64 x,.int .i64 t,.int .i64 n,.slice E.a E.n E.c,.slice L.a L.n L.c,.slice N.a N.n N.c,.slice O.a O.n O.c]] w fun e w'=>∃ E' L' N' O':SL,∃ Y' U' D',e=.returned (.agg #[.int .i64 d,.int .i64 h,.int .i64 l,.int .i64 v,.int .i64 u,.int .i64 x,.int .i64 t,.int .i64 n,.slice E'.a E'.n E'.c,.slice L'.a L'.n L'.c,.slice N'.a N'.n N'.c,.slice O'.a O'.n O'.c])∧NewM w.heap.size w' E' L' N' O' Y' U' D' m∧Below w.heap.size w w':=by
 have:=own_walk d h l v u x t n E N O L.a m.ln L.c L Y U D m w hM hF rfl rfl
 rw[hM.len]
 exact this
theorem Blk.c3 {t0:TypeId}{w:World}{b:Nat}{x0 x1 x2:Value}(k:Blk t0 w b #[x0,x1,x2]):w.cell? ⟨b,0,none⟩=some x0∧w.cell? ⟨b,1,none⟩=some x1∧w.cell? ⟨b,2,none⟩=some x2:=⟨k.cell 0 rfl,k.cell 1 rfl,k.cell 2 rfl⟩
theorem Blk.o3 {t0:TypeId}{w:World}{b:Nat}{cs:Array Value}(k:Blk t0 w b cs):w.frozen? ⟨b,0,none⟩=false∧w.frozen? ⟨b,1,none⟩=false∧w.frozen? ⟨b,2,none⟩=false:=⟨k.open_ 0,k.open_ 1,k.open_ 2⟩
theorem Blk.c4 {t0:TypeId}{w:World}{b:Nat}{x0 x1 x2 x3:Value}(k:Blk t0 w b #[x0,x1,x2,x3]):w.cell? ⟨b,0,none⟩=some x0∧w.cell? ⟨b,1,none⟩=some x1∧w.cell? ⟨b,2,none⟩=some x2∧w.cell? ⟨b,3,none⟩=some x3:=⟨k.cell 0 rfl,k.cell 1 rfl,k.cell 2 rfl,k.cell 3 rfl⟩
theorem Blk.o4 {t0:TypeId}{w:World}{b:Nat}{cs:Array Value}(k:Blk t0 w b cs):w.frozen? ⟨b,0,none⟩=false∧w.frozen? ⟨b,1,none⟩=false∧w.frozen? ⟨b,2,none⟩=false∧w.frozen? ⟨b,3,none⟩=false:=⟨k.open_ 0,k.open_ 1,k.open_ 2,k.open_ 3⟩
theorem set3 {t:TypeId}{W:World}{b:Nat}{x0 x1 x2:Value}(h:Blk t W b #[x0,x1,x2])(v0 v1 v2:Value) :
  ∃ W',((W.setCell ⟨b,0,none⟩ v0).setCell ⟨b,1,none⟩ v1).setCell ⟨b,2,none⟩ v2=W'∧Blk t W' b #[v0,v1,v2]∧Only b W W'∧W'.heap.size=W.heap.size:=by
 have q0:Blk t (W.setCell ⟨b,0,none⟩ v0) b #[v0,x1,x2]:=set_blk h 0 v0 rfl
 have q1:Blk t ((W.setCell ⟨b,0,none⟩ v0).setCell ⟨b,1,none⟩ v1) b #[v0,v1,x2]:=set_blk q0 1 v1 rfl
 have q2:Blk t (((W.setCell ⟨b,0,none⟩ v0).setCell ⟨b,1,none⟩ v1).setCell ⟨b,2,none⟩ v2) b #[v0,v1,v2]:=set_blk q1 2 v2 rfl
 exact⟨_,rfl,q2,((Only.set b 0 W v0).trans (Only.set b 1 _ v1)).trans (Only.set b 2 _ v2),by simp⟩
structure Md where
 d:Int
 h:Int
 l:Int
 v:Int
 u:Int
 x:Int
 t:Int
 n:Int
 m:ModV
 r:Int
 s:Int
 a:AdV
def Md.D (M:Md):Nat:=M.d.toNat
def Md.H (M:Md):Nat:=M.h.toNat
def plusL (xs ys:List Int):List Int:=(List.range xs.length).map (plusZ xs ys)
def graftL (M:Md)(i j:Nat)(y hh:List Int):List Int:=if M.r=0 then y else plusL y (applR (M.a.f i j) (M.a.f i (j+1)) M.r M.s hh)
def nrmL (M:Md)(i:Nat)(x:List Int):List Int:=rmsZ x (M.m.f i 0) M.D
def qL (M:Md)(p:Int)(i:Nat)(x:List Int):List Int:=headsL (graftL M i 0 (matL (M.m.f i 1) (nrmL M i x)) (nrmL M i x)) p (M.D/M.H) M.H
def kL (M:Md)(p:Int)(i:Nat)(x:List Int):List Int:=headsL (matL (M.m.f i 2) (nrmL M i x)) p (M.D/M.H) M.H
def vL (M:Md)(i:Nat)(x:List Int):List Int:=graftL M i 2 (matL (M.m.f i 3) (nrmL M i x)) (nrmL M i x)
def partL (P:Nat→List Int)(c f d:Nat)(last:List Int)(r:Nat):List Int:=if r<c then ((P r).drop f).take d else last
def keysL (M:Md)(p:Int)(P:Nat→List Int)(c i:Nat)(x:List Int):Nat→List Int:=partL P c (2*i*M.D) M.D (kL M p i x)
def valsL (M:Md)(P:Nat→List Int)(c i:Nat)(x:List Int):Nat→List Int:=partL P c (2*i*M.D+M.D) M.D (vL M i x)
def oL (M:Md)(p:Int)(P:Nat→List Int)(c i:Nat)(x:List Int):List Int:=allL (qL M p i x) (keysL M p P c i x) (valsL M P c i x) (M.D/M.H) (c+1) M.H
def w1L (M:Md)(i:Nat)(x o:List Int):List Int:=plusL x (matL (M.m.f i 4) o)
def wkL (M:Md)(i:Nat)(x o:List Int):List Int:=plusL (w1L M i x o) (mixL (M.m.f i 6) (M.m.un i) (M.m.u i) (M.m.d i) M.t (rmsZ (w1L M i x o) (M.m.f i 5) M.D))
def embL (M:Md)(tok:Nat):List Int:=(List.range M.D).map fun j=>M.m.e.getD (tok*M.D+j) 0*1024
def stX (M:Md)(p:Int)(P:Nat→List Int)(c tok:Nat):Nat→List Int
 | 0=>embL M tok
 | i+1=>wkL M i (stX M p P c tok i) (oL M p P c i (stX M p P c tok i))
def stR (M:Md)(p:Int)(P:Nat→List Int)(c tok:Nat):Nat→List Int
 | 0=>[]
 | i+1=>stR M p P c tok i++(kL M p i (stX M p P c tok i)++vL M i (stX M p P c tok i))
def rowL (M:Md)(p:Int)(P:Nat→List Int)(c tok:Nat):List Int:=stR M p P c tok M.m.ln
def outL (M:Md)(p:Int)(P:Nat→List Int)(c tok:Nat):List Int:=rmsZ (stX M p P c tok M.m.ln) M.m.nm M.D
structure MdOk (M:Md):Prop where
 ok:okB M.d M.h M.l M.v M.u M.x M.t M.n=true
 ck:checkB M.d M.h M.l M.v M.u M.x M.t M.n M.m=0
 ad:M.r≠0→checkA M.r M.s M.d M.h M.l M.v M.u M.x M.t M.n M.a=0
structure MdFit (M:Md):Prop where
 eD:M.d=(M.D:Int)
 d0:2≤M.D
 d1:M.D≤8
 eH:M.h=(M.H:Int)
 h0:1≤M.H
 h1:M.H≤8
 dh:M.D%M.H=0
 ev:M.D/M.H%2=0
 el:M.l=(M.m.ln:Int)
 l0:1≤M.m.ln
 l1:M.m.ln≤2
 v0:2≤M.v
 v1:M.v≤16
 n0:0≤M.n
 n1:M.n≤16
 e:(M.m.e.length:Int)=M.v*M.D
 nm:M.m.nm.length=M.D
 o:(M.m.o.length:Int)=M.v*M.D
 f0:∀ i,i<M.m.ln→(M.m.f i 0).length=M.D
 fq:∀ i,i<M.m.ln→∀ j,1≤j→j≤4→(M.m.f i j).length=M.D*M.D
 f5:∀ i,i<M.m.ln→(M.m.f i 5).length=M.D
 f6:∀ i,i<M.m.ln→((M.m.f i 6).length:Int)=M.x*M.D
 un:∀ i,i<M.m.ln→M.m.un i=netsN M.x
 dn:∀ i,i<M.m.ln→M.m.dn i=netsN M.x
 u:∀ i,i<M.m.ln→∀ j,j<netsN M.x→((M.m.u i j).length:Int)=M.u*M.D
 d:∀ i,i<M.m.ln→∀ j,j<netsN M.x→((M.m.d i j).length:Int)=M.u*M.D
 u0:1≤M.u
 u1:M.u≤8
 xt:(M.x=0∧M.t=0)∨(2≤M.x∧M.x≤4∧1≤M.t∧M.t≤M.x)
theorem MdOk.fit {M:Md}(h:MdOk M):MdFit M:=by
 have r:=right_of h.ok
 obtain⟨good,bad⟩:=chk_iff h.ok M.m
 have all:AllR M.l.toNat M.d.toNat (M.d*M.d).toNat (M.x*M.d).toNat (M.u*M.d).toNat (M.v*M.d).toNat (netsN M.x) M.m:=by
  rcases Classical.em (AllR M.l.toNat M.d.toNat (M.d*M.d).toNat (M.x*M.d).toNat (M.u*M.d).toNat (M.v*M.d).toNat (netsN M.x) M.m) with a|a
  ·exact a
  ·have:=bad a
   rw[h.ck] at this
   cases this
 obtain⟨⟨a1,a2,a3,a4⟩,lay⟩:=all
 have hd0:=r.d0;have hd1:=r.d1;have l0:=r.l0;have l1:=r.l1;have v0:=r.v0;have v1:=r.v1;have u0:=r.u0;have u1:=r.u1;have x0:=r.x0;have x1:=r.x1;have h0:=r.h0;have h1:=r.h1
 have eD:M.d=(M.D:Int):=by unfold Md.D;omega
 have eH:M.h=(M.H:Int):=by unfold Md.H;omega
 have okk:=h.ok
 unfold okB headsB expertsB at okk
 simp only[Bool.and_eq_true,decide_eq_true_eq] at okk
 obtain⟨⟨b1,b2,b3,b4,b5⟩,b6,⟨b7,b8⟩,⟨b9,b10⟩,⟨b11,b12⟩,b13,b14⟩:=okk
 have md:M.D%M.H=0:=by
  have e:((M.D%M.H:Nat):Int)=0:=by rw[Int.natCast_emod,←eD,←eH];exact b4
  omega
 have mev:M.D/M.H%2=0:=by
  have e:((M.D/M.H%2:Nat):Int)=0:=by rw[Int.natCast_emod,Int.natCast_ediv,←eD,←eH];exact b5
  omega
 have p1:0≤M.v*M.d:=Int.mul_nonneg (by omega) (by omega)
 have p2:0≤M.x*M.d:=Int.mul_nonneg (by omega) (by omega)
 have p3:0≤M.u*M.d:=Int.mul_nonneg (by omega) (by omega)
 have p4:(M.d*M.d).toNat=M.D*M.D:=by
  have q:M.d*M.d=((M.D*M.D:Nat):Int):=by rw[Int.natCast_mul,←eD]
  rw[q]
  exact Int.toNat_natCast _
 refine⟨eD,by omega,by omega,eH,by omega,by omega,md,mev,by omega,by omega,by omega,v0,v1,by omega,by omega,?_,a3,?_,?_,?_,?_,?_,?_,?_,?_,?_,u0,u1,b6⟩
 ·rw[a2,←eD];omega
 ·rw[a4,←eD];omega
 ·intro i hi;exact ((lay i hi).1.1 0 (by omega))
 ·intro i hi j hj hj'
  rw[(lay i hi).1.1 j (by omega)]
  unfold preC
  rw[if_neg (by omega),if_neg (by omega),p4]
 ·intro i hi;exact ((lay i hi).1.1 5 (by omega))
 ·intro i hi
  rw[(lay i hi).1.1 6 (by omega)]
  show ((M.x*M.d).toNat:Int)=_
  rw[←eD];omega
 ·intro i hi;exact (lay i hi).1.2.1
 ·intro i hi;exact (lay i hi).1.2.2
 ·intro i hi j hj;rw[((lay i hi).2 j hj).1,←eD];omega
 ·intro i hi j hj;rw[((lay i hi).2 j hj).2,←eD];omega
structure AdFit (M:Md) (R:Nat):Prop where
 er:M.r=(R:Int)
 r0:1≤R
 r1:R≤4
 s0:0≤M.s
 s1:M.s≤8
 ln:M.a.ln=M.m.ln
 f:∀ i,i<M.m.ln→∀ j,j<4→(M.a.f i j).length=R*M.D
theorem MdOk.adapter {M:Md}(h:MdOk M)(hr:M.r≠0):∃ R,AdFit M R:=by
 have F:=h.fit
 have c:=h.ad hr
 unfold checkA at c
 by_cases o:okA M.r M.s M.d M.h M.l M.v M.u M.x M.t M.n=true
 ·rw[if_pos o] at c
  by_cases q:(M.a.ln:Int)=M.l∧lensA M.r M.d M.a=true
  ·obtain⟨q1,q2⟩:=q
   have q3:=lensA_iff.1 q2
   unfold okA at o
   simp only[Bool.and_eq_true,decide_eq_true_eq] at o
   obtain⟨-,o1,o2,o3,o4⟩:=o
   have el:=F.el
   refine⟨M.r.toNat,by omega,by omega,by omega,o3,o4,by omega,fun i hi j hj=>?_⟩
   have:=q3 i (by omega) j hj
   rw[F.eD,show M.r=(M.r.toNat:Int) by omega,←Int.natCast_mul] at this
   exact Int.ofNat.inj this
  ·rw[if_neg q] at c
   cases c
 ·rw[if_neg o] at c
  cases c
theorem fitB_of {n d:Nat}{r:Int}(hd:0<d)(h:(n:Int)=r*d)(hr:0≤r):fitB n r d=true:=by
 obtain⟨R,rfl⟩:∃ R:Nat,r=R:=⟨r.toNat,by omega⟩
 have e:n=R*d:=by rw[←Int.natCast_mul] at h;exact Int.ofNat.inj h
 subst e
 exact decide_eq_true ⟨hd,Nat.mul_mod_left _ _,by rw[Nat.mul_div_cancel _ hd]⟩
theorem plusL_length (xs ys:List Int):(plusL xs ys).length=xs.length:=by simp[plusL]
theorem rmsZ_length (xs ws:List Int)(n:Nat):(rmsZ xs ws n).length=n:=by simp[rmsZ]
theorem nrmL_length (M:Md)(i:Nat)(x:List Int):(nrmL M i x).length=M.D:=rmsZ_length _ _ _
theorem graftL_length (M:Md)(i j:Nat)(y hh:List Int):(graftL M i j y hh).length=y.length:=by
 unfold graftL
 split
 ·rfl
 ·exact plusL_length _ _
theorem hd_mul {M:Md}(F:MdFit M):M.H*(M.D/M.H)=M.D:=by
 have:=F.dh
 rw[Nat.mul_comm]
 exact Nat.div_mul_cancel (Nat.dvd_of_mod_eq_zero this)
theorem mat_length {M:Md}(F:MdFit M){i:Nat}(hi:i<M.m.ln){j:Nat}(h1:1≤j)(h4:j≤4){x:List Int}(hx:x.length=M.D):(matL (M.m.f i j) x).length=M.D:=by
 have:=F.d0
 rw[matL_length,F.fq i hi j h1 h4,hx,Nat.mul_div_cancel _ (by omega)]
theorem kL_length {M:Md}(F:MdFit M)(p:Int)(i:Nat)(x:List Int):(kL M p i x).length=M.D:=by
 unfold kL
 rw[headsL_length,hd_mul F]
theorem vL_length {M:Md}(F:MdFit M){i:Nat}(hi:i<M.m.ln)(x:List Int):(vL M i x).length=M.D:=by
 unfold vL
 rw[graftL_length,mat_length F hi (by omega) (by omega) (nrmL_length _ _ _)]
theorem embL_length (M:Md)(tok:Nat):(embL M tok).length=M.D:=by simp[embL]
theorem stR_length {M:Md}(F:MdFit M)(p:Int)(P:Nat→List Int)(c tok k:Nat)(hk:k≤M.m.ln):(stR M p P c tok k).length=2*k*M.D:=by
 induction k with
 | zero=>simp[stR]
 | succ k ih =>
  rw[stR,List.length_append,List.length_append,ih (by omega),kL_length F,vL_length F (by omega),show 2*(k+1)=2*k+2 by omega,Nat.add_mul]
  omega
theorem mix_fits {M:Md}(F:MdFit M){i:Nat}(hi:i<M.m.ln){xs:List Int}(hx:xs.length=M.D):mixE (M.m.f i 6) (M.m.un i) (M.m.dn i) (M.m.u i) (M.m.d i) M.u M.t xs=0:=by
 have d0:=F.d0
 have u0:=F.u0
 have hn:netsN M.x=(max M.x 1).toNat:=rfl
 have one:∀ j,j<netsN M.x→oneB (M.m.u i j) (M.m.d i j) M.u xs=true:=fun j hj=>by
  have h1:=F.u i hi j hj
  have h2:=F.d i hi j hj
  have f1:fitB (M.m.u i j).length M.u xs.length=true:=by rw[hx];exact fitB_of (by omega) h1 (by omega)
  obtain⟨U,hU⟩:∃ U:Nat,M.u=U:=⟨M.u.toNat,by omega⟩
  have e1:(M.m.u i j).length=U*M.D:=by rw[hU,←Int.natCast_mul] at h1;exact Int.ofNat.inj h1
  have e2:(hidL (M.m.u i j) xs).length=U:=by rw[hidL_length,hx,e1,Nat.mul_div_cancel _ (by omega)]
  have f2:fitB (M.m.d i j).length (xs.length:Int) (hidL (M.m.u i j) xs).length=true:=by
   rw[e2,hx]
   refine fitB_of (by omega) ?_ (by omega)
   rw[h2,hU,Int.mul_comm]
  unfold oneB
  rw[f1,f2]
  rfl
 unfold mixE
 rw[F.un i hi,F.dn i hi,if_neg (by rcases F.xt with⟨a,b⟩|⟨a,b,c,e⟩<;>omega)]
 rcases F.xt with⟨a,b⟩|⟨a,b,c,e⟩
 ·rw[if_pos (by omega),if_pos (one 0 (by omega))]
 ·rw[if_neg (by omega)]
  have en:((netsN M.x:Nat):Int)=M.x:=by omega
  have rb:routeB (M.m.f i 6) (netsN M.x) M.t xs=true:=by
   unfold routeB
   rw[decide_eq_true c,decide_eq_true (by omega),Bool.true_and,Bool.true_and,en,hx]
   exact fitB_of (by omega) (F.f6 i hi) (by omega)
  rw[if_neg (by rw[rb];decide),if_pos]
  unfold restB
  refine List.all_eq_true.2 fun j hj=>?_
  have:=plc_lt rb (j:=j) (by simpa using hj)
  exact one _ (by omega)
theorem appl_ok {M:Md}(F:MdFit M){R:Nat}(A:AdFit M R){i:Nat}(hi:i<M.m.ln){j:Nat}(hj:j<3){xs:List Int}(hx:xs.length=M.D):applOK (M.a.f i j) (M.a.f i (j+1)) M.r xs:=by
 have d0:=F.d0
 have r0:=A.r0
 have e1:=A.f i hi j (by omega)
 have e2:=A.f i hi (j+1) (by omega)
 have q:(M.a.f i j).length/xs.length=R:=by rw[e1,hx,Nat.mul_div_cancel _ (by omega)]
 refine⟨?_,?_⟩
 ·rw[hx,e1,A.er]
  exact⟨by omega,Nat.mul_mod_left _ _,by rw[Nat.mul_div_cancel _ (by omega)]⟩
 ·rw[q,e2,hx]
  exact⟨by omega,Nat.mul_mod_right _ _,by rw[Nat.mul_div_cancel_left _ (by omega)]⟩
def In32 (z:Int):Prop:=-2147483648≤z∧z≤2147483647
theorem in_clamp (z:Int):In32 (cZ z):=cZb z
theorem in_plusL (xs ys:List Int):∀ z∈plusL xs ys,In32 z:=fun z hz=>by
 obtain⟨y,_,rfl⟩:=List.mem_map.1 hz
 exact in_clamp _
theorem in_matL (ws xs:List Int):∀ z∈matL ws xs,In32 z:=fun z hz=>by
 obtain⟨y,_,rfl⟩:=List.mem_map.1 hz
 exact in_clamp _
theorem in_turnZ (xs:List Int)(p:Int)(n:Nat):∀ z∈turnZ xs p n,In32 z:=fun z hz=>by
 obtain⟨y,_,rfl⟩:=List.mem_map.1 hz
 unfold turnF
 split<;>exact in_clamp _
theorem in_headsL (xs:List Int)(p:Int)(d m:Nat):∀ z∈headsL xs p d m,In32 z:=by
 induction m with
 | zero=>intro z hz;simp[headsL] at hz
 | succ m ih =>
  intro z hz
  rw[headsL,List.mem_append] at hz
  rcases hz with h|h
  ·exact ih z h
  ·exact in_turnZ _ _ _ z h
theorem in_vL (M:Md)(i:Nat)(x:List Int):∀ z∈vL M i x,In32 z:=by
 unfold vL graftL
 split
 ·exact in_matL _ _
 ·exact in_plusL _ _
theorem in_stR (M:Md)(p:Int)(P:Nat→List Int)(c tok k:Nat):∀ z∈stR M p P c tok k,In32 z:=by
 induction k with
 | zero=>intro z hz;simp[stR] at hz
 | succ k ih =>
  intro z hz
  rw[stR,List.mem_append,List.mem_append] at hz
  rcases hz with h|h|h
  ·exact ih z h
  ·exact in_headsL _ _ _ _ z h
  ·exact in_vL _ _ _ z h
theorem In32.wf {z:Int}(h:In32 z):(Lit.int .i64 z).wf=true:=WalkArith.wf_i64 ⟨by have:=h.1;omega,by have:=h.2;omega⟩
theorem emb_at (M:Md)(tok j:Nat)(hj:j<M.D):(embL M tok).getD j 0=M.m.e.getD (tok*M.D+j) 0*1024:=by simp[embL,hj]
theorem wf_i8' {y:Int}(h:(Lit.int .i8 y).wf=true):-128≤y∧y≤127:=by
 simpa [Lit.wf,IntKind.min,IntKind.max,IntKind.signed,IntKind.bits] using h
theorem wf_embL {M:Md}(he:∀ i,(Lit.int .i8 (M.m.e.getD i 0)).wf=true)(tok:Nat):∀ z∈embL M tok,(Lit.int .i64 z).wf=true:=fun z hz=>by
 obtain⟨y,_,rfl⟩:=List.mem_map.1 hz
 have:=wf_i8' (he (tok*M.D+y))
 exact WalkArith.wf_i64 ⟨by omega,by omega⟩
theorem embedded_call (M:Md)(E L N O:SL)(Y U D:Nat→Nat→SL)(F:MdFit M)(w:World)(hM:ModAt w E L N O Y U D M.m)(tok:Nat)(ht:(tok:Int)<M.v) :
  Calls Tryz.prog 59 #[.agg #[.int .i64 M.d,.int .i64 M.h,.int .i64 M.l,.int .i64 M.v,.int .i64 M.u,.int .i64 M.x,.int .i64 M.t,.int .i64 M.n,.slice E.a E.n E.c,.slice L.a L.n L.c,.slice N.a N.n N.c,.slice O.a O.n O.c],.int .i64 tok] w fun e w'=>(∃ a c,e=.returned (.slice a M.D c)∧Reads .i64 w' a M.D (embL M tok)∧∀ x,a=some x→w.heap.size≤x.block)∧Below w.heap.size w w':=by
 obtain⟨i0,hi,hz0,hz1,hz2⟩:=info_parts info2
 have d0:=F.d0
 have d1:=F.d1
 have v1:=F.v1
 have eD:=F.eD
 have he:=hM.e
 have elen:(E.n:Int)=M.v*M.D:=by rw[←he.reads.len];exact F.e
 obtain⟨V,hV⟩:∃ V:Nat,M.v=V:=⟨M.v.toNat,by have:=F.v0;omega⟩
 have elen':E.n=V*M.D:=by rw[hV,←Int.natCast_mul] at elen;exact Int.ofNat.inj elen
 have hp:(tok+1)*M.D≤V*M.D:=Nat.mul_le_mul_right _ (by omega)
 rw[Nat.succ_mul] at hp
 have hpb:V*M.D≤16*8:=Nat.mul_le_mul (by omega) d1
 obtain⟨Ea,En,Ec⟩:=E
 obtain⟨y,rfl⟩:∃ y,Ea=some y:=he.reads.some_ (by show 0<En;have:En=V*M.D:=elen';omega)
 obtain⟨P,eP⟩:∃ P,tok*M.D=P:=⟨_,rfl⟩
 have ip:(tok:Int)*(M.D:Int)=(P:Int):=by rw[←eP];simp
 have wfE:=he.reads.wf
 have hE:Reads .i8 w (some y) En M.m.e:=he.reads
 have hcap:En≤Ec:=he.cap
 have elen2:En=V*M.D:=elen'
 have hin:∀ j,j<M.D→P+j<En:=fun j hj=>by omega
 have hEs:En≤128:=by omega
 obtain⟨W0,eW⟩:∃ W0,w.alloc (.cells #[.int .i64 M.d,.int .i64 M.h,.int .i64 M.l,.int .i64 M.v,.int .i64 M.u,.int .i64 M.x,.int .i64 M.t,.int .i64 M.n,.slice (some y) En Ec,.slice L.a L.n L.c,.slice N.a N.n N.c,.slice O.a O.n O.c] 27)=W0:=⟨_,rfl⟩
 have hb0:Below w.heap.size w W0:=eW ▸ bNw (Below.refl _ w) _
 have q0:Blk 27 W0 w.heap.size #[.int .i64 M.d,.int .i64 M.h,.int .i64 M.l,.int .i64 M.v,.int .i64 M.u,.int .i64 M.x,.int .i64 M.t,.int .i64 M.n,.slice (some y) En Ec,.slice L.a L.n L.c,.slice N.a N.n N.c,.slice O.a O.n O.c]:=eW ▸ Blk.new 27 w _
 have hE0:=hE.below hb0
 have HQ:=hdn q0
 have c0:W0.cell? ⟨w.heap.size,0,none⟩=some (.int .i64 M.d):=q0.cell 0 rfl
 obtain⟨D0,eD0⟩:∃ D0,M.D=D0:=⟨_,rfl⟩
 have eE:∀ j,j<D0→(embL M tok).getD j 0=M.m.e.getD (P+j) 0*1024:=fun j hj=>by rw[emb_at M tok j (by omega),eP]
 have ll:(embL M tok).length=D0:=by rw[embL_length,eD0]
 have wfe:=wf_embL (M:=M) wfE tok
 obtain⟨zs,ezs⟩:∃ zs,embL M tok=zs:=⟨_,rfl⟩
 obtain⟨es,ees⟩:∃ es,M.m.e=es:=⟨_,rfl⟩
 rw[ezs] at eE ll wfe ⊢
 rw[ees] at eE hE0 wfE
 rw[eD0] at eD ip d0 d1 hin ⊢
 clear q0 hM F he elen elen' hp hpb eP hE hb0 hcap elen2 hV ht v1 ezs ees eD0
 have Hb:Hid (Below w.heap.size w W0):=eW ▸ bNw (Below.refl _ w) _
 have ED:Hid (M.d=(D0:Int)):=eD
 clear eD
 dsimp only
 go_enter Tryz.func59,Tryz.ntmps59
 go_wp2_with (first|(at_make;(refine wpList_make_full _ rfl (.tmp 9) (.tmp 9) 34 rfl W0.heap.size 2 i0 (.int .i64 0) 1 Tryz.underlying34 hi hz0 hz1 .i64 .i64 _ _ D0 rfl rfl ED.out ED.out (by rw[hz2];omega) (by unfold maxLen;omega) (Nat.le_refl _) ?_);intro w1 hown hgrow))
 have hbel:Below W0.heap.size W0 w1:=(Below.refl _ _).grown hgrow (Nat.le_refl _) (fun k h=>by cases h)
 clear hgrow eW c0
 obtain⟨B0,eB0⟩:∃ B0,W0.heap.size=B0:=⟨_,rfl⟩
 rw[eB0] at hown hbel ⊢
 obtain⟨b,eb⟩:∃ b,w.heap.size=b:=⟨_,rfl⟩
 rw[eb] at HQ ⊢
 go_wp2
 go_loopw [13] (fun i wr=>∃ k:Nat,k≤D0∧i=.int .i64 k∧Below B0 W0 wr∧∃ cs,wr.ownsRow B0 2 1 (.slice (some ⟨B0,0,none⟩) D0 D0) D0 cs∧∀ j,j<k→cs[j]? = some (.int .i64 (zs.getD j 0))) (fun i _=>D0-(intOf i).toNat)
 case atStart=>exact⟨0,Nat.zero_le _,rfl,hbel,_,hown,fun j hj=>by omega⟩
 case round =>
  clear hown hbel
  obtain⟨k,hk,rfl,hbr,cs,ho,hcs⟩:=hrel
  by_cases hlt:k<D0
  ·have hbr':Below W0.heap.size W0 wr:=eB0 ▸ hbr
   have c8:=(HQ.out.kept hbr').cell 8 (v:=.slice (some y) En Ec) rfl
   have hin':=hin k hlt
   have cy:=(hE0.below hbr').cell y rfl (P+k) hin'
   obtain⟨Q,eQ⟩:∃ Q,P+k=Q:=⟨_,rfl⟩
   have iQ:(P:Int)+(k:Int)=(Q:Int):=by omega
   have ek:=eE k hlt
   rw[eQ] at cy hin' ek
   have wq:=wf_i8' (wfE Q)
   obtain⟨X,eX⟩:∃ X,es.getD Q 0=X:=⟨_,rfl⟩
   rw[eX] at cy ek wq
   have hlen:=oLe ho
   obtain⟨u,hu⟩:∃ u,cs[k]? = some u:=⟨cs[k],by simp[hlen,hlt]⟩
   have cell:wr.cell? ⟨B0,k,none⟩=some u:=(ho.cellAt k (by omega)).trans hu
   have froz:=ho.frozenAt k
   have R:Hid (Below B0 W0 (wr.setCell ⟨B0,k,none⟩ (.int .i64 (X*1024)))∧∃ cs',(wr.setCell ⟨B0,k,none⟩ (.int .i64 (X*1024))).ownsRow B0 2 1 (.slice (some ⟨B0,0,none⟩) D0 D0) D0 cs'∧∀ j,j<k+1→cs'[j]? = some (.int .i64 (zs.getD j 0))) :=
    ⟨hbr.setCell (Nat.le_refl _) _,_,(ho.stored k _).1,set_step (F:=fun j=>Value.int .i64 (zs.getD j 0)) hlen hlt (by rw[ek]) hcs⟩
   clear eQ eX ek ho hcs hlen hu hbr hbr' hin eE wfe wfE hi hz0 hz1 hz2
   go_wp2
   go_roundw
   case rel=>exact⟨k+1,by omega,by go_num,R.out⟩
   case measure=>simp[intOf];omega
  ·have e:k=D0:=by omega
   subst e
   have fin:=oRa (zs:=zs) ho ll wfe hcs
   clear hcs ho eE
   have hbr':Below W0.heap.size W0 wr:=eB0 ▸ hbr
   have hbw:=bTn Hb.out hbr'
   have frs:Hid (∀ x:Addr,some (⟨B0,0,none⟩:Addr)=some x→w.heap.size≤x.block):=fun x hx=>by
    have h1:B0=x.block:=congrArg Addr.block (Option.some.inj hx)
    have h2:=Hb.out.size
    omega
   clear hbr hbr'
   go_wp2
   go_ret
   exact⟨⟨_,_,rfl,fin,frs.out⟩,hbw⟩
theorem wpList_make_part {P:Program}(w:World){ops:Array Oper}{rest:List Oper}{o:Oper}{a:Act}{Q:Exit→Act→World→Prop}
  (hg:o.guard=none) (l c:Operand) (t:TypeId) (hop:o.op=Op.makeSlice t l c)
  (e:TypeId) (i:TypeInfo) (z:Value) (h1:P.underlying t=some (.slice e)) (h2:P.info? e=some i) (h3:i.zero=some z) (h4:i.size=1)
  (kl kc:IntKind) (L C:Int) (n m:Nat) (hl:a.eval l=.int kl L) (hc:a.eval c=.int kc C) (hL:L=(n:Int)) (hC:C=(m:Int)) (hnm:n≤m) (b2:i.bytes*m≤281474976710656) (b3:m≤maxLen)
  (hK:∀ w',w'.ownsRow w.heap.size e 1 (.slice (some ⟨w.heap.size,0,none⟩) n m) n ((madeCells z.cells m).toList.take n)→Below w.heap.size w w'→wpList P ops Q rest (a.put o.dst (.slice (some ⟨w.heap.size,0,none⟩) n m)) w') :
  wpList P ops Q (o :: rest) a w:=by
 refine wpList_plain hg fun K hK'=>?_
 subst hL
 subst hC
 have b3':m≤9223372036854775807:=by unfold maxLen at b3;omega
 have hby:((i.bytes*m:Nat):Int)≤281474976710656:=by omega
 rw[Int.natCast_mul] at hby
 have hrun:=run_make (P:=P) w t e i z h1 h2 h3 kl kc n m (by omega) (by omega) hby (by omega)
 simp only[Int.toNat_natCast,h4,Nat.mul_one] at hrun
 unfold Oper.wp
 simp[execOp,hop,hl,hc,hrun,Result.andThen]
 refine hK' _ _ (hK _ ⟨?_,.inr ⟨w.heap.size,m,_,rfl,Nat.le_refl _,heap_alloc_new w _,hnm,b3,?_,?_⟩⟩ (bNw (Below.refl _ _) _))
 ·simp[size_madeCells];omega
 ·rw[size_madeCells,Nat.mul_one]
 ·rw[Nat.mul_one]
theorem own_parts {w wr:World}{a:Option Addr}{n:Nat}{A:Nat→Option Addr}{C:Nat→Nat}{P:Nat→List Int}(h:Grid w a n A C P)(hb:Below w.heap.size w wr){f d:Nat}(hd:0<d)(hr:∀ r,r<n→f+d≤(P r).length){v:Value}{cs:List Value}{G:Nat→Nat}(ho:wr.ownsRow w.heap.size 34 1 v n cs)
  (hc:∀ j,j<n→cs[j]? = some (.slice (cutA A f j) d (G j))) (last:List Int):OwnGrid w.heap.size wr v n (cutA A f) G (partL P n f d last):=by
 have el:∀ r,r<n→partL P n f d last r=cutR P f d r:=fun r hr'=>by unfold partL cutR;rw[if_pos hr']
 have ln:∀ r,r<n→(partL P n f d last r).length=d:=fun r hr'=>by rw[el r hr',cutR_length P f d r (hr r hr')]
 have rd:∀ r,r<n→Reads .i64 w (cutA A f r) d (partL P n f d last r):=fun r hr'=>by
  rw[el r hr']
  have q:=h.row r hr'
  obtain⟨y,ey⟩:=q.some_ (by have:=hr r hr';omega)
  have eA:cutA A f r=some (y.add f):=by unfold cutA;rw[ey];rfl
  rw[eA]
  rw[ey] at q
  exact q.cut f d (hr r hr')
 have e:cs=heads (cutA A f) G (partL P n f d last) n:=by
  refine List.ext_getElem? fun j=>?_
  by_cases hj:j<n
  ·rw[hc j hj]
   simp[heads,hj,ln j hj]
  ·have:=oLe ho
   rw[List.getElem?_eq_none (by omega),List.getElem?_eq_none (by simp[heads];omega)]
 refine⟨e ▸ ho,fun r hr'=>by rw[ln r hr'];exact (rd r hr').below hb,fun r hr' h0 x hx g hg=>?_⟩
 have c0:=(rd r hr').cell x hx 0 (by omega)
 have lt:x.block<w.heap.size:=by
  have:=World.block_lt_of_cell? w _ c0
  simpa [Addr.add] using this
 have:=(ho.lt g hg).1
 omega
theorem cutEach_md (a:Option Addr)(n c:Nat)(A:Nat→Option Addr)(C:Nat→Nat)(P:Nat→List Int)(f d:Nat)(last:List Int)(w:World)(h:Grid w a n A C P)(hC:∀ r,r<n→(P r).length≤C r)(hd:0<d)(hr:∀ r,r<n→f+d≤(P r).length)(hb:n≤1000) :
  Calls Tryz.prog 61 #[.slice a n c,.int .i64 f,.int .i64 d] w fun e w'=>e=.returned (.slice (some ⟨w.heap.size,0,none⟩) n (n+1))∧OwnGrid w.heap.size w' (.slice (some ⟨w.heap.size,0,none⟩) n (n+1)) n (cutA A f) (fun _=>d) (partL P n f d last)∧Below w.heap.size w w':=by
 obtain⟨i0,hi,hz0,hz1,hz2⟩:=info_parts info34
 have hm:=h.max
 obtain⟨m,em⟩:∃ m,n+1=m:=⟨_,rfl⟩
 have em':(n:Int)+1=(m:Int):=by omega
 have hmb:m≤1001:=by omega
 have hnm:n≤m:=by omega
 rw[em]
 clear em
 go_enter Tryz.func61,Tryz.ntmps61
 go_wp2_with (first
  | (at_make;refine wpList_make_part _ rfl (.tmp 11) (.tmp 14) 31 rfl 34 i0 (.slice none 0 0) Tryz.underlying31 hi hz0 hz1 .i64 .i64 _ _ n m rfl rfl rfl (by first|rfl|omega) hnm (by rw[hz2];omega) (by unfold maxLen;omega) ?_;intro w1 hown hbel))
 clear em'
 go_wp2
 go_loopw [18] (fun i wr=>∃ k:Nat,k≤n∧i=.int .i64 k∧Below w.heap.size w wr∧∃ cs,wr.ownsRow w.heap.size 34 1 (.slice (some ⟨w.heap.size,0,none⟩) n m) n cs∧∀ j,j<k→cs[j]? = some (.slice (cutA A f j) d d)) (fun i _=>n-(intOf i).toNat)
 case atStart=>exact⟨0,Nat.zero_le _,rfl,hbel,_,hown,fun j hj=>by omega⟩
 case round =>
  clear hown hbel
  obtain⟨k,hk,rfl,hbr,cs,ho,hcs⟩:=hrel
  by_cases hlt:k<n
  ·obtain⟨x,rfl⟩:=h.some_ (by omega)
   have rk:=h.row k hlt
   have cx:=(h.below hbr).cell x rfl k hlt
   have h1:=hr k hlt
   have h2:=hC k hlt
   have h3:=rk.max
   obtain⟨y,ey⟩:=rk.some_ (by omega)
   have eA:cutA A f k=some (y.add f):=by unfold cutA;rw[ey];rfl
   rw[ey] at cx
   obtain⟨G,eG⟩:∃ G,(P k).length=G:=⟨_,rfl⟩
   rw[eG] at cx h1 h2 h3
   obtain⟨K,eK⟩:∃ K,C k=K:=⟨_,rfl⟩
   rw[eK] at cx h2
   obtain⟨Q,eQ⟩:∃ Q,f+d=Q:=⟨_,rfl⟩
   have eQ':(f:Int)+(d:Int)=(Q:Int):=by omega
   have eQ2:Q-f=d:=by omega
   have hQ:Q≤G:=by omega
   have hQ':Q≤K:=by omega
   have hP:f<Q:=by omega
   have hlen:=oLe ho
   obtain⟨u,hu⟩:∃ u,cs[k]? = some u:=⟨cs[k],by simp[hlen,hlt]⟩
   have cell:wr.cell? ⟨w.heap.size,k,none⟩=some u:=(ho.cellAt k (by omega)).trans hu
   have froz:=ho.frozenAt k
   have Rr:Hid (Below w.heap.size w (wr.setCell ⟨w.heap.size,k,none⟩ (.slice (some (y.add f)) d d))∧∃ cs',(wr.setCell ⟨w.heap.size,k,none⟩ (.slice (some (y.add f)) d d)).ownsRow w.heap.size 34 1 (.slice (some ⟨w.heap.size,0,none⟩) n m) n cs'∧∀ j,j<k+1→cs'[j]? = some (.slice (cutA A f j) d d)) :=
    ⟨hbr.setCell (Nat.le_refl _) _,_,(ho.stored k _).1,set_step (F:=fun j=>Value.slice (cutA A f j) d d) hlen hlt (by rw[eA]) hcs⟩
   clear eQ eG eK eA ey rk ho hcs hlen hbr hu h hr hC hi hz0 hz1 hz2
   go_wp2
   go_roundw
   case rel=>exact⟨k+1,by omega,by go_num,Rr.out⟩
   case measure=>simp[intOf];omega
  ·have e:k=n:=by omega
   subst e
   have fin:=own_parts h hbr hd hr ho hcs last
   clear hcs ho
   go_wp2
   go_ret
   exact⟨rfl,fin,hbr⟩
theorem parts_md (a:Option Addr)(n c:Nat)(A:Nat→Option Addr)(C:Nat→Nat)(R:Nat→List Int)(f d:Nat)(last:List Int)(w:World)(h:Grid w a n A C R)(hC:∀ r,r<n→(R r).length≤C r)(hd:0<d)(hr:∀ r,r<n→f+d≤(R r).length)(hb:n≤1000) :
  Calls Tryz.prog 68 #[.slice a n c,.int .i64 f,.int .i64 d] w fun e w'=>(∃ v,e=.returned v∧OwnGrid w.heap.size w' v n (cutA A f) (fun r=>C r-f) (partL R n f d last))∧Below w.heap.size w w':=by
 obtain⟨i0,hi,hz0,hz1,hz2⟩:=info_parts info34
 have hm:=h.max
 go_enter Tryz.func68,Tryz.ntmps68
 go_wp2
 go_loopw [7,8] (fun v i wr=>∃ k:Nat,k≤n∧i=.int .i64 k∧Below w.heap.size w wr∧wr.ownsRow w.heap.size 34 1 v k (cutCells A C f d k)) (fun _ i _=>n-(intOf i).toNat)
 case atStart=>exact⟨0,Nat.zero_le _,rfl,Below.refl _ _,World.ownsRow_nil _ _ _ _⟩
 case round =>
  obtain⟨k,hk,rfl,hbr,ho⟩:=hrel
  by_cases hlt:k<n
  ·obtain⟨x,rfl⟩:=h.some_ (by omega)
   have rk:=h.row k hlt
   have cx:=(h.below hbr).cell x rfl k hlt
   have h1:=hr k hlt
   have h2:=hC k hlt
   have h3:=rk.max
   obtain⟨y,ey⟩:=rk.some_ (by omega)
   have eA:cutA A f k=some (y.add f):=by unfold cutA;rw[ey];rfl
   have es:=cutCells_succ A C f d k
   rw[eA] at es
   have Es:Hid _:=es
   rw[ey] at cx
   obtain⟨L,eL⟩:∃ L,(R k).length=L:=⟨_,rfl⟩
   rw[eL] at cx h1 h2 h3
   obtain⟨G,eG⟩:∃ G,C k=G:=⟨_,rfl⟩
   rw[eG] at cx h2 Es
   obtain⟨Q,eQ⟩:∃ Q,f+d=Q:=⟨_,rfl⟩
   have eQ':(f:Int)+(d:Int)=(Q:Int):=by omega
   have eQ2:Q-f=d:=by omega
   have hQ:Q≤G:=by omega
   have hP:f<Q:=by omega
   have hG:¬G=f:=by omega
   have hQ3:Q≤9223372036854775807:=by omega
   have hsz:=hbr.size
   clear eQ eG eL eA es ey rk h hr hC
   go_wp2_with (at_builtin;refine wpList_append_own _ rfl (.tmp 15) (.tmp 25) 31 rfl w.heap.size 34 i0 (.slice none 0 0) 1 24 Tryz.underlying31 hi hz0 hz1 hz2 rfl (by decide) _ _ _ rfl (ho.alloc _) ⟨_,0,none⟩ 1 1 [.slice (some (y.add f)) d (G-f)] rfl rfl (one_new _ _ _) (by simp[Value.oneCell']) (by unfold maxLen;omega) (by omega) (by simp;omega) ?_;intro v' w1 ho' hg _)
   go_roundw
   case rel =>
    refine⟨k+1,by omega,by go_num,?_,?_⟩
    ·exact (hbr.alloc hsz _).grown hg (by have:=(Below.refl w.heap.size wr).alloc hsz (.cells #[.slice (some (y.add f)) d (G-f)] 34);have:=this.size;omega) (fun g h=>(ho.lt g h).1)
    ·rw[Es.out];exact ho'
   case measure=>simp[intOf];omega
  ·have e:k=n:=by omega
   subst e
   have fin:=own_parts h hbr hd hr ho (G:=fun r=>C r-f) (fun j hj=>by simp[cutCells,hj]) last
   clear ho
   go_wp2
   go_ret
   exact⟨⟨_,rfl,fin⟩,hbr⟩
end Go.Proofs.YthliomlmhfjhnaaGreat

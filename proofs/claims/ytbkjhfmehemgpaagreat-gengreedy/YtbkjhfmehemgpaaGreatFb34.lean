/- Texts put together. -/
import Derived.Test.YtbkjhfmehemgpaaGreatFb32
namespace Go.Proofs.YtbkjhfmehemgpaaGreat
set_option maxRecDepth 20000
set_option maxHeartbeats 16000000
open Go.ChangeShapes Go.WideShapes Go.ChangeAt Go.RowKit
set_option linter.unusedVariables false
set_option linter.unusedSimpArgs false
def GrowAns (B:Nat)(w:World)(e:Ending)(L:Nat→Bm)(n:Nat)(R:Nat→List Int)(m:Nat)(width len stop:Int):Prop :=
 ∃ (a b:Option Addr) (ca cb:Nat) (Ar:Nat→Option Addr) (Cr:Nat→Nat),e=.returned (.tuple #[.slice a (growL L n R m width len stop).length ca,.slice b (growL L n R m width len stop).length cb,.int .i64 (growE L n R m width)])∧(growL L n R m width len stop).length≤ca∧(growL L n R m width len stop).length≤cb∧(a=none→ca=0)∧((b=none→cb=0)∧∀ r,r<(growL L n R m width len stop).length→(growB L (growL L n R m width len stop) r).t.length≤Cr r∧∀ x:Addr,Ar r=some x→B≤x.block) ∧
  BmAt w a (growL L n R m width len stop).length Ar Cr (growB L (growL L n R m width len stop))∧Reads .i64 w b (growL L n R m width len stop).length (growP (growL L n R m width len stop))
theorem addr_at (b i:Nat):(⟨b,0,none⟩:Addr).add i=⟨b,i,none⟩:=by cases i<;>simp[Addr.add]
theorem GI.fin {w0 w:World}{g b1 b2 K Q:Nat}{A:Nat→Option Addr}{C:Nat→Nat}{L:Nat→Bm}{CS GG:List Cd}{Ar:Nat→Option Addr}{Cr:Nat→Nat}(h:GI w0 w g b1 b2 K Q Q A C L (fun r=>CS.getD ((places (bescoresZ CS)).getD r 0) c0) Ar Cr)(hl:GG.length=Q)(hQ:Q≤1000)
  (hg:∀ r,r<Q→GG.getD r c0=CS.getD ((places (bescoresZ CS)).getD r 0) c0) (hw:∀ r,r<Q→(Lit.int .i64 (GG.getD r c0).s).wf=true) (hp:∀ r,r<Q→(GG.getD r c0).p≤1000) :
  BmAt w (some ⟨b1,0,none⟩) Q Ar Cr (growB L GG)∧Reads .i64 w (some ⟨b2,0,none⟩) Q (growP GG)∧∀ r,r<Q→(growB L GG r).t.length≤Cr r∧∀ x:Addr,Ar r=some x→w0.heap.size≤x.block:=by
 have c1:=h.c1
 have c2:=h.c2
 have rw_:=h.row
 refine⟨⟨by omega,fun _=>⟨_,rfl⟩,fun x hx r hr=>?_,fun r hr=>?_,fun r hr=>(h.nil r hr).1,fun r hr=>hw r hr⟩,Reads.of_row (by simp[growP,hl]) (by omega) (fun z hz=>?_) (fun i hi=>?_),fun r hr=>by
   have:=(h.nil r hr).2
   rw[←hg r hr] at this
   exact⟨this,fun x hx=>(h.off r hr x hx).2.2⟩⟩
 ·obtain rfl:=Option.some.inj hx
  have:=c1 r hr
  rw[←hg r hr] at this
  rw[Addr.add_add,Addr.add_add,addr_at,addr_at,addr_at]
  exact this
 ·have:=rw_ r hr
  rw[←hg r hr] at this
  exact this
 ·obtain⟨c,hc,rfl⟩:=List.mem_map.1 hz
  obtain⟨i,hi,rfl⟩:=List.getElem_of_mem hc
  have:=hp i (by omega)
  rw[show GG.getD i c0=GG[i] by simp[List.getD,hi]] at this
  exact WalkArith.wf_i64 ⟨by omega,by omega⟩
 ·rw[addr_at,c2 i hi,←hg i hi]
  simp[growP,List.getD,hl,hi]
theorem Grow_yes (a0:Option Addr)(n ca:Nat)(A:Nat→Option Addr)(C:Nat→Nat)(L:Nat→Bm)(a1:Option Addr)(m cb:Nat)(A1:Nat→Option Addr)(C1:Nat→Nat)(R:Nat→List Int)(width len stop:Int)(w:World)
  (h0:BmAt w a0 n A C L) (h1:Grid w a1 m A1 C1 R) (hcb:m≤cb) (hE:growE L n R m width=0) (hR:∀ r,r<m→(R r).length≤1000) (hn:n≤1000) (hT:∀ r,r<n→(L r).t.length≤1000000) :
  Calls Tryz.prog 83 #[.slice a0 n ca,.slice a1 m cb,.int .i64 width,.int .i64 len,.int .i64 stop] w fun e w'=>GrowAns w.heap.size w' e L n R m width len stop∧Below w.heap.size w w':=by
 have hw:1≤width∧width≤4∧befitB L n R m=true:=by
  unfold growE at hE
  split at hE
  ·cases hE
  ·split at hE
   ·rename_i h1 h2
    exact⟨by omega,by omega,h2⟩
   ·cases hE
 obtain⟨w1,w4,hf⟩:=hw
 have kf:=befits_call a0 n ca A C L a1 m cb A1 C1 R w h0 h1
 rw[hf] at kf
 have hf':=hf
 unfold befitB at hf'
 simp only[Bool.and_eq_true,decide_eq_true_eq,List.all_eq_true,List.mem_range] at hf'
 obtain⟨⟨n0,hm⟩,hRp⟩:=hf'
 have kc:=fun W hb=>candidates_call a0 n ca A C L a1 m cb A1 C1 R len stop W (h0.below hb) (h1.below hb) hcb hm (fun r hr=>⟨hRp r hr,hR r hr⟩) hn hT
 obtain⟨WI,rfl⟩:∃ WI:Nat,width=(WI:Int):=⟨width.toNat,by omega⟩
 have cpos:0<(candTo L R len stop n).length:=by
  obtain⟨p,rfl⟩:∃ p,n=p+1:=⟨n-1,by omega⟩
  have:0<(candOf L R len stop p).length:=by
   unfold candOf
   split
   ·simp
   ·rename_i hff
    rw[grownTo_length]
    exact hRp _ (by rw[hm];exact liveTo_live L (Nat.lt_succ_self p) (by simpa using hff))
  rw[candTo,List.length_append]
  omega
 obtain⟨CS,eCS⟩:∃ CS,candTo L R len stop n=CS:=⟨_,rfl⟩
 rw[eCS] at kc cpos
 have cbound:CS.length≤1000000:=by
  have:=candTo_count L R len stop n 1000 (fun j hj hff=>hR _ (by rw[hm];exact liveTo_live L hj hff)) (by decide)
  rw[eCS] at this
  omega
 have kc':∀ W,Below w.heap.size w W→Calls Tryz.prog 114 #[.slice a0 n ca,.slice a1 m cb,.int .i64 len,.int .i64 stop] W fun e w'=>(∃ g cap,e=.returned (.slice (some ⟨g,0,none⟩) CS.length cap)∧W.heap.size≤g∧CS.length≤cap∧w'.ownsRow W.heap.size 164 5 (.slice (some ⟨g,0,none⟩) CS.length cap) CS.length (CS.flatMap (cdC A C L)))∧Below W.heap.size W w':=fun W hb=>by
  refine (kc W hb).mono ?_
  rintro e w' ⟨⟨v,rfl,ho⟩,hb'⟩
  rcases ho.2 with⟨rfl,h⟩|⟨g,cap,cur,rfl,hg,hh,hnc,_⟩
  ·omega
  ·exact⟨⟨g,cap,rfl,hg,hnc,ho⟩,hb'⟩
 have ks:=fun B W g cap ho=>sort_call A C L CS B g cap W ho (by omega)
 obtain⟨K,eK⟩:∃ K,CS.length=K:=⟨_,rfl⟩
 rw[eK] at kc' ks cpos cbound
 obtain⟨Q,eQ⟩:∃ Q:Nat,min WI K=Q:=⟨_,rfl⟩
 have eQ':min (WI:Int) (K:Int)=(Q:Int):=by omega
 have eQ2:Q≤K:=by omega
 have eQ3:Q≤4:=by omega
 have HM:Hid (∀ r,r<K→(CS.getD ((places (bescoresZ CS)).getD r 0) c0).p<n∧(Lit.int .i64 (CS.getD ((places (bescoresZ CS)).getD r 0) c0).k).wf=true∧(L (CS.getD ((places (bescoresZ CS)).getD r 0) c0).p).t.length≤1000000):=by
  show ∀ r,r<K→_
  intro r hr
  have h1:=getD_mem (place_lt CS (i:=r) (by omega))
  rw[←eCS] at h1
  obtain⟨h2,h3⟩:=candTo_mem h1
  rw[eCS] at h1 h2 h3
  refine⟨h2,?_,hT _ h2⟩
  rcases (candOf_mem h3).2 with⟨_,h4⟩|⟨hff,j,hj,h4⟩
  ·rw[h4];show (Lit.int .i64 (-1)).wf=true;decide
  ·have h5:j<1000:=Nat.lt_of_lt_of_le hj (hR _ (by rw[hm];exact liveTo_live L h2 hff))
   rw[h4]
   exact wf_range (by show (-9223372036854775808:Int)≤(j:Int);omega) (by show (j:Int)≤9223372036854775807;omega)
 have H0:Hid (BmAt w a0 n A C L):=h0
 have GIF:Hid (∀ (W:World) (b1 b2 g:Nat) (Ar:Nat→Option Addr) (Cr:Nat→Nat),GI w W g b1 b2 K Q Q A C L (fun r=>CS.getD ((places (bescoresZ CS)).getD r 0) c0) Ar Cr→GrowAns w.heap.size W (.returned (.tuple #[.slice (some ⟨b1,0,none⟩) Q Q,.slice (some ⟨b2,0,none⟩) Q Q,.int .i64 0])) L n R m (WI:Int) len stop):=by
  show ∀ W b1 b2 g Ar Cr,_→_
  intro W b1 b2 g Ar Cr hG
  have eL:growL L n R m (WI:Int) len stop=bestZ CS (WI:Int):=by unfold growL;rw[if_pos hE,eCS]
  have hl:(bestZ CS (WI:Int)).length=Q:=by rw[bestZ_length,Int.toNat_natCast,eK];exact eQ
  have hat:∀ r,r<Q→(bestZ CS (WI:Int)).getD r c0=CS.getD ((places (bescoresZ CS)).getD r 0) c0:=fun r hr=>bestZ_at CS _ (by rw[Int.toNat_natCast,eK];omega)
  have q:=hG.fin hl (by omega) hat (fun r hr=>?_) (fun r hr=>?_)
  ·unfold GrowAns
   rw[eL,hE,hl]
   exact⟨_,_,_,_,_,_,rfl,Nat.le_refl _,Nat.le_refl _,(fun e=>by cases e),⟨(fun e=>by cases e),q.2.2⟩,q.1,q.2.1⟩
  ·rw[hat r hr]
   have h1:=getD_mem (place_lt CS (i:=r) (by omega))
   rw[←eCS] at h1
   obtain⟨h2,h3⟩:=candTo_mem h1
   rw[eCS] at h1 h2 h3
   rcases (candOf_mem h3).2 with⟨_,h4⟩|⟨hff,j,hj,h4⟩
   ·rw[h4];exact h0.wf _ h2
   ·rw[h4]
    have:=cZb (cZ (L (CS.getD ((places (bescoresZ CS)).getD r 0) c0).p).s+lossZ (R (liveTo L (CS.getD ((places (bescoresZ CS)).getD r 0) c0).p)) j)
    exact wf_range (by show (-9223372036854775808:Int)≤cZ _;omega) (by show cZ _≤(9223372036854775807:Int);omega)
  ·rw[hat r hr]
   have:=(HM.out r (by omega)).1
   omega
 clear kc hE hR hT hf hRp eCS hm
 clear eQ
 go_enter Tryz.func83,Tryz.ntmps83
 go_wp2_with (first
  | (go_at_call 113;refine kf.mono ?_;rintro e W1 ⟨rfl,hb1⟩)
  | (go_at_call 114;refine (kc' _ hb1).mono ?_;rintro e W2 ⟨⟨g,cap,rfl,hg,hcap,ho2⟩,hb2⟩)
  | (go_at_call 115;have hgl:=(ho2.lt g rfl).2;refine (ks _ _ g cap ho2).mono ?_;rintro e W3 ⟨rfl,cd3,hb3,kp3⟩))
 have mk27:=make27 Q (by omega)
 have mk29:=make29 Q (by omega)
 have hbw:Below w.heap.size w W3:=(bTn hb1 hb2).trans (hb3.mono hb1.size)
 have hg3:g<W3.heap.size:=Nat.lt_of_lt_of_le hgl hb3.size
 go_region
 ·have gi0:=GI.start1 hbw cd3 hg3 (show Q≤1000 by omega)
  generalize ((W3.alloc (zB Q)).alloc (zI Q)).drew=W4 at gi0 ⊢
  generalize W3.heap.size+1=bx at gi0 ⊢
  generalize W3.heap.size=by_ at gi0 ⊢
  obtain⟨XG,eXG⟩:∃ X,(⟨g,0,none⟩:Addr)=X:=⟨_,rfl⟩
  obtain⟨XB,eXB⟩:∃ X,(⟨by_,0,none⟩:Addr)=X:=⟨_,rfl⟩
  rw[eXG,eXB]
  have HXG:Hid ((⟨g,0,none⟩:Addr)=XG):=eXG
  have HXB:Hid ((⟨by_,0,none⟩:Addr)=XB):=eXB
  have HI0:Hid _:=gi0
  clear eXG eXB gi0 cd3 hb3 kp3 hbw hg3
  go_wp2
  go_loopw [49] (fun i wr=>∃ k:Nat,k≤Q∧i=.int .i64 k∧∃ Ar Cr,Hid (GI w wr g by_ bx K Q k A C L (fun r=>CS.getD ((places (bescoresZ CS)).getD r 0) c0) Ar Cr)) (fun i _=>Q-(intOf i).toNat)
  case atStart=>exact⟨0,Nat.zero_le _,rfl,_,_,HI0⟩
  case round =>
   obtain⟨k,hk,rfl,Ar,Cr,HI⟩:=hrel
   clear HI0
   by_cases hlt:k<Q
   ·obtain⟨c,ec⟩:∃ c,CS.getD ((places (bescoresZ CS)).getD k 0) c0=c:=⟨_,rfl⟩
    have d:=HI.out.cd.at5 (r:=k) (by omega)
    simp only[ec] at d
    rw[HXG.out] at d
    obtain⟨y,ey,d0,d1,d2,d3,d4⟩:=d
    obtain⟨hp,hkw,hT⟩:=HM.out k (by omega)
    rw[ec] at hp hkw hT
    have rd:=(H0.out.row c.p hp).below HI.out.bel
    have hnl:=H0.out.nil c.p hp
    have pmax:(c.p:Int)≤1000:=by omega
    have HC:Hid (CS.getD ((places (bescoresZ CS)).getD k 0) c0=c):=ec
    clear ec
    obtain⟨o3,eo3⟩:∃ o,k*3=o:=⟨_,rfl⟩
    have ho3:Hid (k*3=o3):=eo3
    clear eo3
    have eyB':XB.add (k*3)=⟨by_,o3,none⟩:=by rw[←HXB.out,←ho3.out];cases k<;>simp[Addr.add]
    go_wp2
    generalize hW5:wr.alloc (.cells #[.slice (A c.p) (L c.p).t.length (C c.p),.int .i64 c.s,.bool c.f,.int .i64 (c.p:Nat),.int .i64 c.k] 164)=W5
    have b5:Below wr.heap.size wr W5:=by rw[←hW5];exact bNw (Below.refl _ _) _
    have gi5:=HI.out.below b5
    obtain⟨e0,e1,e2,e3,e4⟩:W5.cell? ⟨wr.heap.size,0,none⟩=some (.slice (A c.p) (L c.p).t.length (C c.p))∧W5.cell? ⟨wr.heap.size,1,none⟩=some (.int .i64 c.s)∧W5.cell? ⟨wr.heap.size,2,none⟩=some (.bool c.f)∧W5.cell? ⟨wr.heap.size,3,none⟩=some (.int .i64 (c.p:Nat))∧W5.cell? ⟨wr.heap.size,4,none⟩=some (.int .i64 c.k):=by rw[←hW5];simp
    have kw:=whole_call (A c.p) (L c.p).t.length (C c.p) (L c.p).t c.s c.f (c.p:Nat) c.k W5.drew (((rd.below b5).drewN 1)) hnl hkw hT
    have hT2:(L c.p).t.length≤1000000:=hT
    have WZ:Hid ((L c.p).t++(if c.k = -1 then [] else [c.k])=(wholeZ L c).t):=show _=_ from rfl
    rw[WZ.out] at kw
    have hsz:wr.heap.size<W5.heap.size:=by rw[←hW5];simp
    have KEY:Hid (∀ (W6:World) (a':Option Addr) (c':Nat),Reads .i64 W6 a' (wholeZ L c).t.length (wholeZ L c).t→((a'=none→c'=0)∧(wholeZ L c).t.length≤c')→(∀ x,a'=some x→W5.drew.heap.size≤x.block)→Below W5.drew.heap.size W5.drew W6 →
      W6.cell? ⟨wr.heap.size,3,none⟩=some (.int .i64 (c.p:Nat)) ∧
      (∃ z0 z1 z2 z3,W6.cell? ⟨by_,o3,none⟩=some z0∧W6.cell? ⟨by_,o3+1,none⟩=some z1∧W6.cell? ⟨by_,o3+2,none⟩=some z2∧W6.frozen? ⟨by_,o3,none⟩=false∧W6.frozen? ⟨by_,o3+1,none⟩=false∧W6.frozen? ⟨by_,o3+2,none⟩=false ∧
      ∃ W7,((W6.setCell ⟨by_,o3,none⟩ (.slice a' (wholeZ L c).t.length c')).setCell ⟨by_,o3+1,none⟩ (.int .i64 c.s)).setCell ⟨by_,o3+2,none⟩ (.bool c.f)=W7 ∧
       W7.cell? ⟨wr.heap.size,3,none⟩=some (.int .i64 (c.p:Nat))∧W7.cell? ⟨bx,k,none⟩=some z3∧W7.frozen? ⟨bx,k,none⟩=false ∧
       ∃ W8,W7.setCell ⟨bx,k,none⟩ (.int .i64 (c.p:Nat))=W8∧Hid (∃ Ar Cr,GI w W8 g by_ bx K Q (k+1) A C L (fun r=>CS.getD ((places (bescoresZ CS)).getD r 0) c0) Ar Cr))):=by
     show ∀ W6 a' c',_
     intro W6 a' c' rd6 hn6 hf6 hb6
     have hb6':Below W5.heap.size W5 W6:=⟨hb6.os,hb6.tape,hb6.output,hb6.size,hb6.block⟩
     have gi6:=gi5.below hb6'
     obtain⟨cs1,o1⟩:=gi6.o1
     obtain⟨cs2,o2⟩:=gi6.o2
     obtain⟨_,p1⟩:=gi5.o1
     obtain⟨_,p2⟩:=gi5.o2
     obtain⟨_,p3⟩:=HI.out.o1
     have l1:=p1.lt by_ rfl
     have l2:=p2.lt bx rfl
     have l3:=p3.lt by_ rfl
     have n1:=o1.1
     have n2:=o2.1
     have q3:=bebelow_cell hb6' e3
     have fin:=gi6.put (a:=a') (c:=c') hlt (by rw[HC.out];exact rd6) (fun x hx=>by
      have h1:W5.heap.size≤x.block:=hf6 x hx
      have h2:=gi5.bel.size
      exact⟨by omega,by omega,by omega⟩) (by rw[HC.out];exact hn6)
     simp only[HC.out] at fin
     have ne1:wr.heap.size≠by_:=fun e=>by
      omega
     have ne2:=gi6.ne.1
     rw[ho3.out] at fin
     have cc:∀ j,j<Q*3→∃ z,W6.cell? ⟨by_,j,none⟩=some z:=fun j hj=>⟨cs1[j]'(by omega),by rw[o1.cellAt j hj];exact List.getElem?_eq_getElem _⟩
     obtain⟨z0,c0'⟩:=cc o3 (by have:=ho3.out;omega)
     obtain⟨z1,c1'⟩:=cc (o3+1) (by have:=ho3.out;omega)
     obtain⟨z2,c2'⟩:=cc (o3+2) (by have:=ho3.out;omega)
     obtain⟨z3,c3'⟩:∃ z,W6.cell? ⟨bx,k,none⟩=some z:=⟨cs2[k]'(by omega),by rw[o2.cellAt k (by omega)];exact List.getElem?_eq_getElem _⟩
     refine⟨q3,z0,z1,z2,z3,c0',c1',c2',o1.frozenAt _,o1.frozenAt _,o1.frozenAt _,_,rfl,?_,?_,?_,_,rfl,⟨_,_,fin⟩⟩
     ·rw[World.cell?_setCell_other _ _ _ _ (fun e=>ne1 (by have:=congrArg Addr.block e;simpa using this.symm)),World.cell?_setCell_other _ _ _ _ (fun e=>ne1 (by have:=congrArg Addr.block e;simpa using this.symm)),World.cell?_setCell_other _ _ _ _ (fun e=>ne1 (by have:=congrArg Addr.block e;simpa using this.symm))]
      exact q3
     ·rw[World.cell?_setCell_other _ _ _ _ (fun e=>ne2 (by have:=congrArg Addr.block e;simpa using this)),World.cell?_setCell_other _ _ _ _ (fun e=>ne2 (by have:=congrArg Addr.block e;simpa using this)),World.cell?_setCell_other _ _ _ _ (fun e=>ne2 (by have:=congrArg Addr.block e;simpa using this))]
      exact c3'
     ·rw[World.frozen?_setCell,World.frozen?_setCell,World.frozen?_setCell]
      exact o2.frozenAt _
    obtain⟨T,eT⟩:∃ T,(L c.p).t.length=T:=⟨_,rfl⟩
    obtain⟨TW,eTW⟩:∃ T,(wholeZ L c).t.length=T:=⟨_,rfl⟩
    obtain⟨bq,ebq⟩:∃ b,wr.heap.size=b:=⟨_,rfl⟩
    rw[eT] at e0 kw
    rw[eTW] at kw KEY
    rw[eT,ebq]
    rw[ebq] at e0 e1 e2 e3 e4 KEY
    clear hW5 b5 gi5 rd hnl hkw hT hT2 d0 d1 d2 d3 d4 ey HI eT eTW ebq
    go_region_with (first|(go_at_call 118;refine kw.mono ?_;rintro e W6 ⟨⟨a',c',rfl,rd6,hn6,hf6⟩,hb6⟩;obtain⟨p3,z0,z1,z2,z3,p4,p5,p6,p7,p8,p9,W7,eW7,q3,q4,q5,W8,eW8,HF⟩:=KEY.out W6 a' c' rd6 hn6 hf6 hb6;clear KEY kw rd6 hb6 hf6 hn6))
    all_goals (
     clear p3 p4 p5 p6 p7 p8 p9 eW7 q3 q4 q5 eW8 e0 e1 e2 e3 e4
     go_wp2
     go_roundw
     case rel =>
      obtain⟨Ar',Cr',h⟩:=HF.out
      exact⟨k+1,by omega,by go_num,Ar',Cr',h⟩
     case measure=>simp[intOf];omega)
   ·obtain rfl:k=Q:=by omega
    rw[←HXB.out]
    go_wp2
    go_ret3
    exact⟨GIF.out _ _ _ _ _ _ HI.out,HI.out.bel⟩
 ·have gi0:=GI.start2 hbw cd3 hg3 (show Q≤1000 by omega)
  generalize ((W3.alloc (zI Q)).alloc (zB Q)).drew=W4 at gi0 ⊢
  generalize W3.heap.size+1=bx at gi0 ⊢
  generalize W3.heap.size=by_ at gi0 ⊢
  obtain⟨XG,eXG⟩:∃ X,(⟨g,0,none⟩:Addr)=X:=⟨_,rfl⟩
  obtain⟨XB,eXB⟩:∃ X,(⟨bx,0,none⟩:Addr)=X:=⟨_,rfl⟩
  rw[eXG,eXB]
  have HXG:Hid ((⟨g,0,none⟩:Addr)=XG):=eXG
  have HXB:Hid ((⟨bx,0,none⟩:Addr)=XB):=eXB
  have HI0:Hid _:=gi0
  clear eXG eXB gi0 cd3 hb3 kp3 hbw hg3
  go_wp2
  go_loopw [49] (fun i wr=>∃ k:Nat,k≤Q∧i=.int .i64 k∧∃ Ar Cr,Hid (GI w wr g bx by_ K Q k A C L (fun r=>CS.getD ((places (bescoresZ CS)).getD r 0) c0) Ar Cr)) (fun i _=>Q-(intOf i).toNat)
  case atStart=>exact⟨0,Nat.zero_le _,rfl,_,_,HI0⟩
  case round =>
   obtain⟨k,hk,rfl,Ar,Cr,HI⟩:=hrel
   clear HI0
   by_cases hlt:k<Q
   ·obtain⟨c,ec⟩:∃ c,CS.getD ((places (bescoresZ CS)).getD k 0) c0=c:=⟨_,rfl⟩
    have d:=HI.out.cd.at5 (r:=k) (by omega)
    simp only[ec] at d
    rw[HXG.out] at d
    obtain⟨y,ey,d0,d1,d2,d3,d4⟩:=d
    obtain⟨hp,hkw,hT⟩:=HM.out k (by omega)
    rw[ec] at hp hkw hT
    have rd:=(H0.out.row c.p hp).below HI.out.bel
    have hnl:=H0.out.nil c.p hp
    have pmax:(c.p:Int)≤1000:=by omega
    have HC:Hid (CS.getD ((places (bescoresZ CS)).getD k 0) c0=c):=ec
    clear ec
    obtain⟨o3,eo3⟩:∃ o,k*3=o:=⟨_,rfl⟩
    have ho3:Hid (k*3=o3):=eo3
    clear eo3
    have eyB':XB.add (k*3)=⟨bx,o3,none⟩:=by rw[←HXB.out,←ho3.out];cases k<;>simp[Addr.add]
    go_wp2
    generalize hW5:wr.alloc (.cells #[.slice (A c.p) (L c.p).t.length (C c.p),.int .i64 c.s,.bool c.f,.int .i64 (c.p:Nat),.int .i64 c.k] 164)=W5
    have b5:Below wr.heap.size wr W5:=by rw[←hW5];exact bNw (Below.refl _ _) _
    have gi5:=HI.out.below b5
    obtain⟨e0,e1,e2,e3,e4⟩:W5.cell? ⟨wr.heap.size,0,none⟩=some (.slice (A c.p) (L c.p).t.length (C c.p))∧W5.cell? ⟨wr.heap.size,1,none⟩=some (.int .i64 c.s)∧W5.cell? ⟨wr.heap.size,2,none⟩=some (.bool c.f)∧W5.cell? ⟨wr.heap.size,3,none⟩=some (.int .i64 (c.p:Nat))∧W5.cell? ⟨wr.heap.size,4,none⟩=some (.int .i64 c.k):=by rw[←hW5];simp
    have kw:=whole_call (A c.p) (L c.p).t.length (C c.p) (L c.p).t c.s c.f (c.p:Nat) c.k W5.drew (((rd.below b5).drewN 1)) hnl hkw hT
    have hT2:(L c.p).t.length≤1000000:=hT
    have WZ:Hid ((L c.p).t++(if c.k = -1 then [] else [c.k])=(wholeZ L c).t):=show _=_ from rfl
    rw[WZ.out] at kw
    have hsz:wr.heap.size<W5.heap.size:=by rw[←hW5];simp
    have KEY:Hid (∀ (W6:World) (a':Option Addr) (c':Nat),Reads .i64 W6 a' (wholeZ L c).t.length (wholeZ L c).t→((a'=none→c'=0)∧(wholeZ L c).t.length≤c')→(∀ x,a'=some x→W5.drew.heap.size≤x.block)→Below W5.drew.heap.size W5.drew W6 →
      W6.cell? ⟨wr.heap.size,3,none⟩=some (.int .i64 (c.p:Nat)) ∧
      (∃ z0 z1 z2 z3,W6.cell? ⟨bx,o3,none⟩=some z0∧W6.cell? ⟨bx,o3+1,none⟩=some z1∧W6.cell? ⟨bx,o3+2,none⟩=some z2∧W6.frozen? ⟨bx,o3,none⟩=false∧W6.frozen? ⟨bx,o3+1,none⟩=false∧W6.frozen? ⟨bx,o3+2,none⟩=false ∧
      ∃ W7,((W6.setCell ⟨bx,o3,none⟩ (.slice a' (wholeZ L c).t.length c')).setCell ⟨bx,o3+1,none⟩ (.int .i64 c.s)).setCell ⟨bx,o3+2,none⟩ (.bool c.f)=W7 ∧
       W7.cell? ⟨wr.heap.size,3,none⟩=some (.int .i64 (c.p:Nat))∧W7.cell? ⟨by_,k,none⟩=some z3∧W7.frozen? ⟨by_,k,none⟩=false ∧
       ∃ W8,W7.setCell ⟨by_,k,none⟩ (.int .i64 (c.p:Nat))=W8∧Hid (∃ Ar Cr,GI w W8 g bx by_ K Q (k+1) A C L (fun r=>CS.getD ((places (bescoresZ CS)).getD r 0) c0) Ar Cr))):=by
     show ∀ W6 a' c',_
     intro W6 a' c' rd6 hn6 hf6 hb6
     have hb6':Below W5.heap.size W5 W6:=⟨hb6.os,hb6.tape,hb6.output,hb6.size,hb6.block⟩
     have gi6:=gi5.below hb6'
     obtain⟨cs1,o1⟩:=gi6.o1
     obtain⟨cs2,o2⟩:=gi6.o2
     obtain⟨_,p1⟩:=gi5.o1
     obtain⟨_,p2⟩:=gi5.o2
     obtain⟨_,p3⟩:=HI.out.o1
     have l1:=p1.lt bx rfl
     have l2:=p2.lt by_ rfl
     have l3:=p3.lt bx rfl
     have n1:=o1.1
     have n2:=o2.1
     have q3:=bebelow_cell hb6' e3
     have fin:=gi6.put (a:=a') (c:=c') hlt (by rw[HC.out];exact rd6) (fun x hx=>by
      have h1:W5.heap.size≤x.block:=hf6 x hx
      have h2:=gi5.bel.size
      exact⟨by omega,by omega,by omega⟩) (by rw[HC.out];exact hn6)
     simp only[HC.out] at fin
     have ne1:wr.heap.size≠bx:=fun e=>by
      omega
     have ne2:=gi6.ne.1
     rw[ho3.out] at fin
     have cc:∀ j,j<Q*3→∃ z,W6.cell? ⟨bx,j,none⟩=some z:=fun j hj=>⟨cs1[j]'(by omega),by rw[o1.cellAt j hj];exact List.getElem?_eq_getElem _⟩
     obtain⟨z0,c0'⟩:=cc o3 (by have:=ho3.out;omega)
     obtain⟨z1,c1'⟩:=cc (o3+1) (by have:=ho3.out;omega)
     obtain⟨z2,c2'⟩:=cc (o3+2) (by have:=ho3.out;omega)
     obtain⟨z3,c3'⟩:∃ z,W6.cell? ⟨by_,k,none⟩=some z:=⟨cs2[k]'(by omega),by rw[o2.cellAt k (by omega)];exact List.getElem?_eq_getElem _⟩
     refine⟨q3,z0,z1,z2,z3,c0',c1',c2',o1.frozenAt _,o1.frozenAt _,o1.frozenAt _,_,rfl,?_,?_,?_,_,rfl,⟨_,_,fin⟩⟩
     ·rw[World.cell?_setCell_other _ _ _ _ (fun e=>ne1 (by have:=congrArg Addr.block e;simpa using this.symm)),World.cell?_setCell_other _ _ _ _ (fun e=>ne1 (by have:=congrArg Addr.block e;simpa using this.symm)),World.cell?_setCell_other _ _ _ _ (fun e=>ne1 (by have:=congrArg Addr.block e;simpa using this.symm))]
      exact q3
     ·rw[World.cell?_setCell_other _ _ _ _ (fun e=>ne2 (by have:=congrArg Addr.block e;simpa using this)),World.cell?_setCell_other _ _ _ _ (fun e=>ne2 (by have:=congrArg Addr.block e;simpa using this)),World.cell?_setCell_other _ _ _ _ (fun e=>ne2 (by have:=congrArg Addr.block e;simpa using this))]
      exact c3'
     ·rw[World.frozen?_setCell,World.frozen?_setCell,World.frozen?_setCell]
      exact o2.frozenAt _
    obtain⟨T,eT⟩:∃ T,(L c.p).t.length=T:=⟨_,rfl⟩
    obtain⟨TW,eTW⟩:∃ T,(wholeZ L c).t.length=T:=⟨_,rfl⟩
    obtain⟨bq,ebq⟩:∃ b,wr.heap.size=b:=⟨_,rfl⟩
    rw[eT] at e0 kw
    rw[eTW] at kw KEY
    rw[eT,ebq]
    rw[ebq] at e0 e1 e2 e3 e4 KEY
    clear hW5 b5 gi5 rd hnl hkw hT hT2 d0 d1 d2 d3 d4 ey HI eT eTW ebq
    go_region_with (first|(go_at_call 118;refine kw.mono ?_;rintro e W6 ⟨⟨a',c',rfl,rd6,hn6,hf6⟩,hb6⟩;obtain⟨p3,z0,z1,z2,z3,p4,p5,p6,p7,p8,p9,W7,eW7,q3,q4,q5,W8,eW8,HF⟩:=KEY.out W6 a' c' rd6 hn6 hf6 hb6;clear KEY kw rd6 hb6 hf6 hn6))
    all_goals (
     clear p3 p4 p5 p6 p7 p8 p9 eW7 q3 q4 q5 eW8 e0 e1 e2 e3 e4
     go_wp2
     go_roundw
     case rel =>
      obtain⟨Ar',Cr',h⟩:=HF.out
      exact⟨k+1,by omega,by go_num,Ar',Cr',h⟩
     case measure=>simp[intOf];omega)
   ·obtain rfl:k=Q:=by omega
    rw[←HXB.out]
    go_wp2
    go_ret3
    exact⟨GIF.out _ _ _ _ _ _ HI.out,HI.out.bel⟩
end Go.Proofs.YtbkjhfmehemgpaaGreat

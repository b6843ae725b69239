/- Texts put together. -/
import Derived.Test.YthliomlmhfjhnaaGreatZp15
import Derived.Test.YthliomlmhfjhnaaGreatZp12
import Derived.Test.YthliomlmhfjhnaaGreatZp18
namespace Go.Proofs.YthliomlmhfjhnaaGreat
set_option maxRecDepth 20000
set_option maxHeartbeats 16000000
open Go.ChangeShapes Go.WideShapes Go.ChangeAt Go.RowKit
set_option linter.unusedVariables false
set_option linter.unusedSimpArgs false
theorem QkJ (a0:Option Addr)(n0 c0:Nat)(ro:List Int)(E k:Int)(a3:Option Addr)(n3 c3:Nat)(xs:List Int)(w:World)(h0:Reads .i8 w a0 n0 ro)(l0:n0≤c0)(h3:Reads .i64 w a3 n3 xs)(wE:(Lit.int .i64 E).wf=true)(wk:(Lit.int .i64 k).wf=true)(b0:n0*8≤140737488355328)(hf:Qbh ro E k xs=true) :
  Calls Tryz.prog 139 #[.slice a0 n0 c0,I4 E,I4 k,.slice a3 n3 c3] w fun e w'=>(∃ ap cp aq cq,e=.returned (.tuple #[.slice ap k.toNat cp,.slice aq k.toNat cq])∧Reads .i64 w' ap k.toNat (QeB ro k xs)∧Reads .i64 w' aq k.toNat (QcE ro k xs))∧Bw w w':=by
 obtain⟨i0,hi,hz0,hz1,hz2⟩:=info_parts QaT
 have hb':(decide (1≤k) && decide (k≤E) && fitB ro.length E xs.length)=true:=hf
 simp only[Bool.and_eq_true,decide_eq_true_eq] at hb'
 obtain⟨⟨hk1,hk2⟩,f1⟩:=hb'
 have hlt:=fun j (h:j<k.toNat)=>QgT hf h
 have hat:=fun j (h:j<k.toNat)=>Qc5 hf h
 rw[h0.len,h3.len] at f1
 have eE:=(Qbn f1).2.2
 have hle:=Nat.div_le_self n0 n3
 have hm3:=h3.max
 obtain⟨R,eR⟩:∃ R,n0/n3=R:=⟨_,rfl⟩
 have em:(matL ro xs).length=R:=by rw[Qa7,h0.len,h3.len,eR]
 obtain⟨K,eK⟩:∃ K,k.toNat=K:=⟨_,rfl⟩
 obtain rfl:k=(K:Int):=by omega
 have eKR:min (K:Int).toNat R=K:=by omega
 have KR:K≤R:=by omega
 have ekn:(K:Int).toNat=K:=rfl
 have ku:=QeT a0 n0 c0 ro E a3 n3 c3 xs w h0 l0 h3 f1 b0
 rw[eR] at ku hle eE
 have kt:=fun (W:World) p (h:Reads .i64 W p R (matL ro xs))=>QlR p R R (matL ro xs) (K:Int) W h (by omega)
 have hat':∀ j,j<K→(Qcf (matL ro xs) (K:Int)).getD j 0=((plc ro xs j:Nat):Int):=fun j h=>hat j (by omega)
 have hlt':∀ j,j<K→plc ro xs j<R:=fun j h=>by have:=hlt j (by omega);omega
 show Calls _ _ _ _ (fun e w'=>(∃ ap cp aq cq,e=.returned (.tuple #[.slice ap (K:Int).toNat cp,.slice aq (K:Int).toNat cq])∧Reads .i64 w' ap (K:Int).toNat (Qcf (matL ro xs) (K:Int))∧Reads .i64 w' aq (K:Int).toNat (QbE (QbA ro (K:Int).toNat xs) (K:Int).toNat))∧Bw w w')
 rw[eKR] at kt
 rw[ekn]
 have Em:=hdn (And.intro em eKR)
 clear hat hlt hf f1 eR eK em eKR eE ekn
 go_enter Tryz.func139,Tryz.ntmps139
 go_wp2_with (first
  | (go_at_call 137;refine (Qea _ _).mono ?_;rintro e w' ⟨rfl,hq⟩;obtain rfl:=hq.symm)
  | (go_at_call 49;refine ku.mono ?_;rintro e w1 ⟨⟨cs0,rfl,hr1,-,-⟩,hb1⟩)
  | (go_at_call 151;refine (QfX _ _ _ _).mono ?_;rintro e w' ⟨rfl,hq⟩;obtain rfl:=hq.symm)
  | (go_at_call 153;refine (kt w1 _ hr1).mono ?_;rintro e w2 ⟨⟨ap,cp,rfl,hr2,-,-⟩,hb2⟩;replace hr1:=hr1.below hb2;have hbw:=bTn hb1 hb2;clear hb1 hb2)
  | (at_make;refine wpList_make_full _ rfl (.tmp 34) (.tmp 34) 34 rfl w2.heap.size 2 i0 (I4 0) 1 Tryz.underlying34 hi hz0 hz1 .i64 .i64 _ _ K rfl rfl rfl rfl (by rw[hz2];omega) (by unfold maxLen;omega) nL ?_;intro w3 hown hgrow))
 have hb3:Bw w2 w3:=bR.grown hgrow nL (fun k h=>by cases h)
 clear ku kt
 go_wp2
 go_loopw [38] (fun i wr=>∃ j:Nat,j≤K∧i=I4 j∧Bw w2 wr∧∃ cs,wr.ownsRow w2.heap.size 2 1 (.slice (some ⟨w2.heap.size,0,none⟩) K K) K cs∧∀ i,i<j→cs[i]? = some (I4 ((matL ro xs).getD (plc ro xs i) 0))) (fun i _=>K-(intOf i).toNat)
 case atStart=>exact⟨0,Nat.zero_le _,rfl,hb3,_,hown,fun j hj=>by omega⟩
 case round =>
  obtain⟨j,hj,rfl,hbr,cs,ho,hcs⟩:=hrel
  by_cases hlt:j<K
  ·have hlen:=oLe ho
   obtain⟨x,rfl⟩:=hr2.some_ (by omega)
   have cx:=(hr2.below hbr).cell x rfl j hlt
   rw[hat' j hlt] at cx
   have pj:=hlt' j hlt
   have cy:=(hr1.below hbr).cell _ rfl (plc ro xs j) pj
   have cell:wr.cell? ⟨w2.heap.size,j,none⟩=cs[j]?:=ho.cellAt j (by omega)
   obtain⟨u,hu⟩:∃ u,cs[j]? = some u:=⟨cs[j],by simp[hlen,hlt]⟩
   rw[hu] at cell
   have froz:=ho.frozenAt j
   obtain⟨p,ep⟩:∃ p,plc ro xs j=p:=⟨_,rfl⟩
   obtain⟨Z,eZ⟩:∃ Z,(matL ro xs).getD (plc ro xs j) 0=Z:=⟨_,rfl⟩
   have R':=hdn (And.intro (hbr.setCell (p:=⟨w2.heap.size,j,none⟩) nL (I4 Z)) (And.intro (ho.stored j (I4 Z)).1 (set_step (F:=fun i=>Value.int .i64 ((matL ro xs).getD (plc ro xs i) 0)) hlen hlt (show Value.int .i64 Z=I4 ((matL ro xs).getD (plc ro xs j) 0) by rw[eZ]) hcs)))
   rw[eZ] at cy
   rw[ep] at cx cy pj
   rw[Addr.add_lit,Nat.zero_add] at cy
   clear eZ ep ho hcs hu hlen hbr hown hgrow hb3 hr1 hr2 hat' hlt'
   go_wp2
   go_roundw
   case rel=>exact⟨j+1,by omega,by go_num,R'.out.1,_,R'.out.2.1,R'.out.2.2⟩
   case measure=>simp[intOf];omega
  ·have e:j=K:=by omega
   subst e
   have hr3:Reads .i64 wr (some ⟨w2.heap.size,0,none⟩) j (QbA ro j xs):=oRa ho (by simp[QbA]) (fun z hz=>by
    obtain⟨y,_,rfl⟩:=List.mem_map.1 hz
    have:=Qb7 ro xs (plc ro xs y)
    exact WalkArith.wf_i64 ⟨by omega,by omega⟩) (fun i hi=>by rw[hcs i hi];simp[QbA,List.getD,hi])
   have ks:=Qgn (some ⟨w2.heap.size,0,none⟩) j j (QbA ro j xs) wr hr3 (by omega)
   replace hr2:=hr2.below hbr
   have hbw':=bTn hbw hbr
   clear hcs ho hown hgrow hb3 hr3
   go_wp2_with (go_at_call 118;refine ks.mono ?_;rintro e w4 ⟨⟨aq,cc,rfl,hr4⟩,hb4⟩)
   go_ret2
   exact⟨⟨_,_,_,_,rfl,hr2.below hb4,hr4⟩,bTn hbw' hb4⟩
theorem Qnf (a0:Option Addr)(n0 c0:Nat)(ro:List Int)(a1:Option Addr)(n c1:Nat)(A1:Nat→Option Addr)(C1:Nat→Nat)(U:Nat→List Int)(a2:Option Addr)(m c2:Nat)(A2:Nat→Option Addr)(C2:Nat→Nat)(D:Nat→List Int)(h k:Int)(a5:Option Addr)(n5 c5:Nat)(xs:List Int)(w:World)(h0:Reads .i8 w a0 n0 ro)(l0:n0≤c0)(g1:Nets w a1 n A1 C1 U)(g2:Nets w a2 m A2 C2 D)(h5:Reads .i64 w a5 n5 xs)(wh:(Lit.int .i64 h).wf=true)(wk:(Lit.int .i64 k).wf=true)(b0:n0*8≤140737488355328)(b1:n*24≤140737488351232)(b5:n5*8≤140737488355328)(hn:1<n)(hm:n=m)(hf:Qbh ro n k xs=true)(hr:QhR ro U D h k.toNat xs=true) :
  Calls Tryz.prog 123 #[.slice a0 n0 c0,.slice a1 n c1,.slice a2 m c2,I4 h,I4 k,.slice a5 n5 c5] w fun e w'=>(∃ a c,e=.returned (.slice a n5 c)∧Reads .i64 w' a n5 (sumL ro U D k xs))∧Bw w w':=by
 have hall:=fun j (hj:j<k.toNat)=>Qgw hr hj
 have hrl:=fun j (hj:j<k.toNat)=>Qb5 (hall j hj)
 clear hr
 subst hm
 have hm1:=g1.grid.max
 have p1:(0:Int)<(n:Int):=by omega
 have p2:((n:Int)==1)=false:=by simp;omega
 have hlt0:=fun j (h:j<k.toNat)=>QgT hf h
 have hat0:=fun j (h:j<k.toNat)=>Qc5 hf h
 have kr:=QkJ a0 n0 c0 ro n k a5 n5 c5 xs w h0 l0 h5 (WalkArith.wf_i64 ⟨by omega,by omega⟩) wk b0 hf
 have hb':(decide (1≤k) && decide (k≤n) && fitB ro.length n xs.length)=true:=hf
 simp only[Bool.and_eq_true,decide_eq_true_eq] at hb'
 obtain⟨⟨hk1,hk2⟩,-⟩:=hb'
 obtain⟨K,eK⟩:∃ K,k.toNat=K:=⟨_,rfl⟩
 obtain rfl:k=(K:Int):=by omega
 have Kn:K≤n:=by omega
 have hlt':∀ j,j<K→plc ro xs j<n:=fun j h=>by have:=hlt0 j (by omega);omega
 have hat:∀ j,j<K→(QeB ro (K:Int) xs).getD j 0=((plc ro xs j:Nat):Int):=fun j h=>hat0 j (by omega)
 have hsb:=fun j=>Qc4 ro (K:Int) xs j
 clear hlt0 hat0 hf
 obtain⟨i0,hi,hz0,hz1,hz2⟩:=info_parts QaT
 obtain⟨j0,hj,hy0,hy1,hy2⟩:=info_parts Qcl
 obtain⟨x,rfl⟩:=g1.grid.some_ (by omega)
 obtain⟨y,rfl⟩:=g2.grid.some_ (by omega)
 obtain⟨SP,eSP⟩:∃ SP,QeB ro (K:Int) xs=SP:=⟨_,rfl⟩
 obtain⟨SS,eSS⟩:∃ SS,QcE ro (K:Int) xs=SS:=⟨_,rfl⟩
 rw[eK,eSP,eSS] at kr
 rw[eSP] at hat
 rw[eSS] at hsb
 have ESS:Hid (QcE ro (K:Int) xs=SS):=eSS
 have hall':∀ j,j<K→oneB (U (plc ro xs j)) (D (plc ro xs j)) h xs=true:=fun j hj=>hall j (by omega)
 have hrl':∀ j,j<K→(QaR ro U D xs j).length=n5:=fun j hj=>(hrl j (by omega)).trans h5.len
 have hsl:=Qen ro U D (K:Int) xs
 have hsa:=fun i=>Qkj ro U D (K:Int) xs i
 rw[h5.len] at hsl hsa
 clear eK eSP eSS hall hrl
 go_enter Tryz.func123,Tryz.ntmps123
 go_wp2_with (first
  | (go_at_call 137;refine (Qea _ _).mono ?_;rintro e w' ⟨rfl,hq⟩;obtain rfl:=hq.symm)
  | (go_at_call 139;refine kr.mono ?_;rintro e w1 ⟨⟨ap,cp,aq,cq,rfl,hrp,hrs⟩,hb1⟩)
  | (at_make;refine wpList_make_full _ rfl (.tmp 53) (.tmp 53) 31 rfl w1.heap.size 34 j0 (.slice none 0 0) 1 Tryz.underlying31 hj hy0 hy1 .i64 .i64 _ _ K rfl rfl rfl rfl (by rw[hy2];omega) (by unfold maxLen;omega) nL ?_;intro w2 hown hgrow))
 have hb2:Bw w1 w2:=bR.grown hgrow nL (fun k h=>by cases h)
 obtain⟨tp,rfl⟩:=hrp.some_ (by omega)
 clear kr
 go_wp2
 go_loopw [57] (fun i wr=>∃ j:Nat,j≤K∧i=I4 j∧Bw w1 wr∧∃ (cs:List Value) (AA:Nat→Addr),wr.ownsRow w1.heap.size 34 1 (.slice (some ⟨w1.heap.size,0,none⟩) K K) K cs∧∀ i,i<j→cs[i]? = some (.slice (some (AA i)) n5 n5)∧Reads .i64 wr (some (AA i)) n5 (QaR ro U D xs i)∧(AA i).block≠w1.heap.size) (fun i _=>K-(intOf i).toNat)
 case atStart=>exact⟨0,Nat.zero_le _,rfl,hb2,_,fun _=>⟨0,0,none⟩,hown,fun j hj=>by omega⟩
 case round =>
  clear hown hgrow hb2
  obtain⟨j,hj,rfl,hbr,cs,AA,ho,hcs⟩:=hrel
  by_cases hltK:j<K
  ·have HF:=hall' j hltK
   have pj:=hlt' j hltK
   have cp':=(hrp.below hbr).cell tp rfl j hltK
   rw[hat j hltK] at cp'
   have bw:=bTn hb1 hbr
   have cx:=fun (W:World) (hb:Bw wr W)=>(g1.grid.below (bTn bw hb)).cell x rfl (plc ro xs j) pj
   have cy:=fun (W:World) (hb:Bw wr W)=>(g2.grid.below (bTn bw hb)).cell y rfl (plc ro xs j) pj
   have ko:=fun (W:World) (hb:Bw wr W)=>QkY (A1 (plc ro xs j)) (U (plc ro xs j)).length (C1 (plc ro xs j)) (U (plc ro xs j)) (A2 (plc ro xs j)) (D (plc ro xs j)).length (C2 (plc ro xs j)) (D (plc ro xs j)) h a5 n5 c5 xs W ((g1.grid.row _ pj).below (bTn bw hb)) (g1.cap _ pj) ((g2.grid.row _ pj).below (bTn bw hb)) (g2.cap _ pj) (h5.below (bTn bw hb)) wh (g1.bnd _ pj) (g2.bnd _ pj) HF
   have hlen:=oLe ho
   obtain⟨u,hu⟩:∃ u,cs[j]? = some u:=⟨cs[j],by simp[hlen,hltK]⟩
   have hsz:=hbr.size
   have hw1:w1.heap.size<wr.heap.size:=(ho.lt _ rfl).2
   obtain⟨O,eO⟩:∃ O,oneL (U (plc ro xs j)) (D (plc ro xs j)) xs=O:=⟨_,rfl⟩
   have EO:Hid (O=QaR ro U D xs j):=eO.symm
   rw[eO] at ko
   obtain⟨p,ep⟩:∃ p,plc ro xs j=p:=⟨_,rfl⟩
   rw[ep] at pj cp' cx cy ko
   clear eO ep HF
   go_wp2
   refine Qk2 x y n c1 c2 (U p).length (C1 p) (D p).length (C2 p) n5 c5 (A1 p) (A2 p) a5 h w1.heap.size K j p O (fun W=>Bw wr W) (by kernel_rfl) rfl (by (repeat' apply And.intro)<;>exact⟨_,rfl,rfl,rfl,rfl,by kernel_rfl⟩) bR.drew (Qb1 _ _ _ _ pj) (fun W hb=>Qag (cx W hb)) (Qb1 _ _ _ _ pj) (fun W hb=>Qag (cy W hb)) (fun W hb=>(ko W hb).mono fun e w' ⟨⟨a,q1,q2,q3,q4⟩,q5⟩=>⟨a,q1,q2,(fun q=>by have:=hb.size;omega),q5,bTn hb q5⟩) (Qgr _ _ _ _ hltK) rfl rfl rfl rfl rfl rfl rfl (Nat.le_of_ble_eq_true rfl) ?_
   intro a W9 hs hd hkp hS9 hval
   have e75:a.tmps.getD 75 undef=.pointer (some ⟨w1.heap.size,j,none⟩):=hval 13 75 (by decide) rfl
   obtain⟨b9,e74,f74,z74⟩:=hval 12 74 (by decide) rfl
   have hS:Bw wr W9:=hS9
   have ho9:=oBe ho hS
   have cell9:W9.cell? ⟨w1.heap.size,j,none⟩=some u:=(ho9.cellAt j (by omega)).trans hu
   have froz9:=ho9.frozenAt j
   rw[e75,e74]
   refine⟨_,QhH cell9 froz9,?_⟩
   obtain⟨f,ef,ep⟩:=fPz [62,63,64,65,66,67,68,69,70,71,72,73,74,75] rfl hs hd hkp
   simp only[ef] at e75 e74
   simp only[List.foldl,e75,e74,Act.put,List.setIfInBounds_toArray,List.set_cons_succ,List.set_cons_zero] at ep
   clear hs hd hkp hval hS9 e75 e74 ef
   subst ep
   have hB9:Bw w1 (W9.setCell ⟨w1.heap.size,j,none⟩ (.slice (some b9) n5 n5)):=(bTn hbr hS).setCell nL _
   have R':=hdn (And.intro hB9 (And.intro (ho9.stored j (.slice (some b9) n5 n5)).1 (show ∀ i,i<j+1→(cs.set j (Value.slice (some b9) n5 n5))[i]? = some (.slice (some (if i=j then b9 else AA i)) n5 n5)∧Reads .i64 (W9.setCell ⟨w1.heap.size,j,none⟩ (.slice (some b9) n5 n5)) (some (if i=j then b9 else AA i)) n5 (QaR ro U D xs i)∧(if i=j then b9 else AA i).block≠w1.heap.size from by
    intro i hi'
    by_cases e:i=j
    ·subst e
     simp only[if_true]
     exact⟨by simp[hlen,hltK],EO.out ▸ f74.setOff (fun e=>z74 e.symm) _,z74⟩
    ·simp only[if_neg e]
     obtain⟨q1,q2,q3⟩:=hcs i (by omega)
     exact⟨by rw[List.getElem?_set_ne (by omega)];exact q1,(q2.below hS).setOff (fun e=>q3 e.symm) _,q3⟩)))
   clear hB9 ho9 cell9 froz9 hS f74 ho hcs hu hlen cx cy ko cp'
   go_wp2
   go_roundw
   case rel=>exact⟨j+1,by omega,by go_num,R'.out.1,_,_,R'.out.2.1,R'.out.2.2⟩
   case measure=>simp[intOf];omega
  ·have e:j=K:=by omega
   subst e
   rename World=>W2
   have G:Grid W2 (some ⟨w1.heap.size,0,none⟩) j (fun i=>some (AA i)) (fun _=>n5) (QaR ro U D xs) :=
    ⟨by omega,fun _=>⟨_,rfl⟩,fun z hz r hr=>by
     obtain rfl:=Option.some.inj hz
     rw[hrl' r hr]
     exact ho.cells (g:=w1.heap.size) rfl r _ (hcs r hr).1,fun r hr=>by rw[hrl' r hr];exact (hcs r hr).2.1⟩
   replace hrs:=hrs.below hbr
   have bw:=bTn hb1 hbr
   clear hcs ho hrp hat hlt' hall' g1 g2
   go_wp2_with (at_make;refine wpList_make_full _ rfl (.tmp 78) (.tmp 78) 34 rfl W2.heap.size 2 i0 (I4 0) 1 Tryz.underlying34 hi hz0 hz1 .i64 .i64 _ _ n5 rfl rfl rfl rfl (by rw[hz2];omega) (by unfold maxLen;omega) nL ?_;intro w3 hown hgrow)
   have hb3:Bw W2 w3:=bR.grown hgrow nL (fun k h=>by cases h)
   go_wp2
   go_loopw [82] (fun i wr=>∃ q:Nat,q≤n5∧i=I4 q∧Bw W2 wr∧∃ cs,wr.ownsRow W2.heap.size 2 1 (.slice (some ⟨W2.heap.size,0,none⟩) n5 n5) n5 cs∧∀ i,i<q→cs[i]? = some (I4 (Qcd (fun j=>SS.getD j 0) (QaR ro U D xs) j i))) (fun i _=>n5-(intOf i).toNat)
   case atStart=>exact⟨0,Nat.zero_le _,rfl,hb3,_,hown,fun j hj=>by omega⟩
   case round =>
    clear hown hgrow hb3
    obtain⟨q,hq,rfl,hbq,ds,hoq,hds⟩:=hrel
    by_cases hltq:q<n5
    ·have kb:=QjP aq j cq SS (some ⟨w1.heap.size,0,none⟩) j (fun i=>some (AA i)) (fun _=>n5) (QaR ro U D xs) q wr (hrs.below hbq) (G.below hbq) (fun i hi'=>by rw[hrl' i hi'];exact hltq) hsb (fun i _=>Qb7 _ _ _)
     have hlen:=oLe hoq
     have cell:wr.cell? ⟨W2.heap.size,q,none⟩=ds[q]?:=hoq.cellAt q (by omega)
     obtain⟨u,hu⟩:∃ u,ds[q]? = some u:=⟨ds[q],by simp[hlen,hltq]⟩
     rw[hu] at cell
     have froz:=hoq.frozenAt q
     obtain⟨Z,eZ⟩:∃ Z,Qcd (fun j=>SS.getD j 0) (QaR ro U D xs) j q=Z:=⟨_,rfl⟩
     have R':=hdn (And.intro (hbq.setCell (p:=⟨W2.heap.size,q,none⟩) nL (I4 Z)) (And.intro (hoq.stored q (I4 Z)).1 (set_step (F:=fun i=>Value.int .i64 (Qcd (fun j=>SS.getD j 0) (QaR ro U D xs) j i)) hlen hltq (show Value.int .i64 Z=I4 (Qcd (fun j=>SS.getD j 0) (QaR ro U D xs) j q) by rw[eZ]) hds)))
     rw[eZ] at kb
     clear eZ hoq hds hu hlen hbq
     go_wp2_with (go_at_call 140;refine kb.mono ?_;rintro e w' ⟨rfl,hq'⟩;obtain rfl:=hq'.symm)
     go_roundw
     case rel=>exact⟨q+1,by omega,by go_num,R'.out.1,_,R'.out.2.1,R'.out.2.2⟩
     case measure=>simp[intOf];omega
    ·have e:q=n5:=by omega
     subst e
     have fin:=oRa (zs:=sumL ro U D (j:Int) xs) hoq hsl (Qj4 _ _ _ _ _) (fun i hi'=>by
      rw[hds i hi',hsa i hi',←ESS.out]
      rfl)
     clear hds hoq
     go_wp2
     go_ret
     exact⟨⟨_,_,rfl,fin⟩,bTn bw hbq⟩
end Go.Proofs.YthliomlmhfjhnaaGreat

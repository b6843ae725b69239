/- Texts put together. -/
import Derived.Test.YtbkjhfmehemgpaaGreatFb25
import Derived.Test.YtbkjhfmehemgpaaGreatFb29
namespace Go.Proofs.YtbkjhfmehemgpaaGreat
set_option maxRecDepth 20000
set_option maxHeartbeats 16000000
open Go.ChangeShapes Go.WideShapes Go.ChangeAt Go.RowKit
set_option linter.unusedVariables false
set_option linter.unusedSimpArgs false
theorem mix_yes (a0:Option Addr)(n0 c0:Nat)(ro:List Int)(a1:Option Addr)(n c1:Nat)(A1:Nat→Option Addr)(C1:Nat→Nat)(U:Nat→List Int)(a2:Option Addr)(m c2:Nat)(A2:Nat→Option Addr)(C2:Nat→Nat)(D:Nat→List Int)(h k:Int)(a5:Option Addr)(n5 c5:Nat)(xs:List Int)(w:World)(h0:Reads .i8 w a0 n0 ro)(l0:n0≤c0)(g1:Nets w a1 n A1 C1 U)(g2:Nets w a2 m A2 C2 D)(h5:Reads .i64 w a5 n5 xs)(wh:(Lit.int .i64 h).wf=true)(wk:(Lit.int .i64 k).wf=true)(b0:n0*8≤140737488355328)(b1:n*24≤140737488351232)(b5:n5*8≤140737488355328)(hn:1<n)(hm:n=m)(hf:routeB ro n k xs=true)(hr:restB ro U D h k.toNat xs=true) :
  Calls Tryz.prog 208 #[.slice a0 n0 c0,.slice a1 n c1,.slice a2 m c2,.int .i64 h,.int .i64 k,.slice a5 n5 c5] w fun e w'=>(∃ a c,e=.returned (.slice a n5 c)∧Reads .i64 w' a n5 (sumL ro U D k xs))∧Below w.heap.size w w':=by
 have hall:=fun j (hj:j<k.toNat)=>restB_yes hr hj
 have hrl:=fun j (hj:j<k.toNat)=>oneL_length (hall j hj)
 clear hr
 subst hm
 have hm1:=g1.grid.max
 have p1:(0:Int)<(n:Int):=by omega
 have p2:((n:Int)==1)=false:=by simp;omega
 have hlt0:=fun j (h:j<k.toNat)=>plc_lt hf h
 have hat0:=fun j (h:j<k.toNat)=>routeP_at hf h
 have kr:=route_yes a0 n0 c0 ro n k a5 n5 c5 xs w h0 l0 h5 (WalkArith.wf_i64 ⟨by omega,by omega⟩) wk b0 hf
 have hb':(decide (1≤k) && decide (k≤n) && fitB ro.length n xs.length)=true:=hf
 simp only[Bool.and_eq_true,decide_eq_true_eq] at hb'
 obtain⟨⟨hk1,hk2⟩,-⟩:=hb'
 obtain⟨K,eK⟩:∃ K,k.toNat=K:=⟨_,rfl⟩
 obtain rfl:k=(K:Int):=by omega
 have Kn:K≤n:=by omega
 have hlt':∀ j,j<K→plc ro xs j<n:=fun j h=>by have:=hlt0 j (by omega);omega
 have hat:∀ j,j<K→(routeP ro (K:Int) xs).getD j 0=((plc ro xs j:Nat):Int):=fun j h=>hat0 j (by omega)
 have hsb:=fun j=>routeS_bounds ro (K:Int) xs j
 clear hlt0 hat0 hf
 obtain⟨i0,hi,hz0,hz1,hz2⟩:=info_parts info2
 obtain⟨j0,hj,hy0,hy1,hy2⟩:=info_parts info70
 obtain⟨x,rfl⟩:=g1.grid.some_ (by omega)
 obtain⟨y,rfl⟩:=g2.grid.some_ (by omega)
 obtain⟨SP,eSP⟩:∃ SP,routeP ro (K:Int) xs=SP:=⟨_,rfl⟩
 obtain⟨SS,eSS⟩:∃ SS,routeS ro (K:Int) xs=SS:=⟨_,rfl⟩
 rw[eK,eSP,eSS] at kr
 rw[eSP] at hat
 rw[eSS] at hsb
 have ESS:Hid (routeS ro (K:Int) xs=SS):=eSS
 have hall':∀ j,j<K→oneB (U (plc ro xs j)) (D (plc ro xs j)) h xs=true:=fun j hj=>hall j (by omega)
 have hrl':∀ j,j<K→(rowsL ro U D xs j).length=n5:=fun j hj=>(hrl j (by omega)).trans h5.len
 have hsl:=sumL_length ro U D (K:Int) xs
 have hsa:=fun i=>sumL_at ro U D (K:Int) xs i
 rw[h5.len] at hsl hsa
 clear eK eSP eSS hall hrl
 go_enter Tryz.func208,Tryz.ntmps208
 go_wp2_with (first
  | (go_at_call 226;refine (need_yes _ _).mono ?_;rintro e w' ⟨rfl,hq⟩;obtain rfl:=hq.symm)
  | (go_at_call 228;refine kr.mono ?_;rintro e w1 ⟨⟨ap,cp,aq,cq,rfl,hrp,hrs⟩,hb1⟩)
  | (at_make;refine wpList_make_full _ rfl (.tmp 53) (.tmp 53) 67 rfl w1.heap.size 70 j0 (.slice none 0 0) 1 Tryz.underlying67 hj hy0 hy1 .i64 .i64 _ _ K rfl rfl rfl rfl (by rw[hy2];omega) (by unfold maxLen;omega) (Nat.le_refl _) ?_;intro w2 hown hgrow))
 have hb2:Below w1.heap.size w1 w2:=(Below.refl _ _).grown hgrow (Nat.le_refl _) (fun k h=>by cases h)
 obtain⟨tp,rfl⟩:=hrp.some_ (by omega)
 clear kr
 go_wp2
 go_loopw [57] (fun i wr=>∃ j:Nat,j≤K∧i=.int .i64 j∧Below w1.heap.size w1 wr∧∃ (cs:List Value) (AA:Nat→Addr),wr.ownsRow w1.heap.size 70 1 (.slice (some ⟨w1.heap.size,0,none⟩) K K) K cs∧∀ i,i<j→cs[i]? = some (.slice (some (AA i)) n5 n5)∧Reads .i64 wr (some (AA i)) n5 (rowsL ro U D xs i)∧(AA i).block≠w1.heap.size) (fun i _=>K-(intOf i).toNat)
 case atStart=>exact⟨0,Nat.zero_le _,rfl,hb2,_,fun _=>⟨0,0,none⟩,hown,fun j hj=>by omega⟩
 case round =>
  clear hown hgrow hb2
  obtain⟨j,hj,rfl,hbr,cs,AA,ho,hcs⟩:=hrel
  by_cases hltK:j<K
  ·have HF:=hall' j hltK
   have pj:=hlt' j hltK
   have cp':=(hrp.below hbr).cell tp rfl j hltK
   rw[hat j hltK] at cp'
   have bw:=bTn hb1 hbr
   have cx:=fun (W:World) (hb:Below wr.heap.size wr W)=>(g1.grid.below (bTn bw hb)).cell x rfl (plc ro xs j) pj
   have cy:=fun (W:World) (hb:Below wr.heap.size wr W)=>(g2.grid.below (bTn bw hb)).cell y rfl (plc ro xs j) pj
   have ko:=fun (W:World) (hb:Below wr.heap.size wr W)=>one_yes (A1 (plc ro xs j)) (U (plc ro xs j)).length (C1 (plc ro xs j)) (U (plc ro xs j)) (A2 (plc ro xs j)) (D (plc ro xs j)).length (C2 (plc ro xs j)) (D (plc ro xs j)) h a5 n5 c5 xs W ((g1.grid.row _ pj).below (bTn bw hb)) (g1.cap _ pj) ((g2.grid.row _ pj).below (bTn bw hb)) (g2.cap _ pj) (h5.below (bTn bw hb)) wh (g1.bnd _ pj) (g2.bnd _ pj) HF
   have hlen:=oLe ho
   obtain⟨u,hu⟩:∃ u,cs[j]? = some u:=⟨cs[j],by simp[hlen,hltK]⟩
   have hsz:=hbr.size
   have hw1:w1.heap.size<wr.heap.size:=(ho.lt _ rfl).2
   obtain⟨O,eO⟩:∃ O,oneL (U (plc ro xs j)) (D (plc ro xs j)) xs=O:=⟨_,rfl⟩
   have EO:Hid (O=rowsL ro U D xs j):=eO.symm
   rw[eO] at ko
   obtain⟨p,ep⟩:∃ p,plc ro xs j=p:=⟨_,rfl⟩
   rw[ep] at pj cp' cx cy ko
   clear eO ep HF
   go_wp2
   refine mr_region x y n c1 c2 (U p).length (C1 p) (D p).length (C2 p) n5 c5 (A1 p) (A2 p) a5 h w1.heap.size K j p O (fun W=>Below wr.heap.size wr W) (by kernel_rfl) rfl ⟨_,rfl,rfl,rfl,rfl,by kernel_rfl⟩ ⟨_,rfl,rfl,rfl,rfl,by kernel_rfl⟩ ⟨_,rfl,rfl,rfl,rfl,by kernel_rfl⟩ ⟨_,rfl,rfl,rfl,rfl,by kernel_rfl⟩ ⟨_,rfl,rfl,rfl,rfl,by kernel_rfl⟩ ⟨_,rfl,rfl,rfl,rfl,by kernel_rfl⟩ ⟨_,rfl,rfl,rfl,rfl,by kernel_rfl⟩ ⟨_,rfl,rfl,rfl,rfl,by kernel_rfl⟩ ⟨_,rfl,rfl,rfl,rfl,by kernel_rfl⟩ ⟨_,rfl,rfl,rfl,rfl,by kernel_rfl⟩ ⟨_,rfl,rfl,rfl,rfl,by kernel_rfl⟩ ⟨_,rfl,rfl,rfl,rfl,by kernel_rfl⟩ ⟨_,rfl,rfl,rfl,rfl,by kernel_rfl⟩ ⟨_,rfl,rfl,rfl,rfl,by kernel_rfl⟩ ⟨_,rfl,rfl,rfl,rfl,by kernel_rfl⟩ (Below.refl _ _).drew (run_index23 _ _ _ _ pj) (fun W hb=>run_load31 (cx W hb)) (run_index23 _ _ _ _ pj) (fun W hb=>run_load31 (cy W hb)) (fun W hb=>(ko W hb).mono fun e w' ⟨⟨a,q1,q2,q3,q4⟩,q5⟩=>⟨a,q1,q2,(fun q=>by have:=hb.size;omega),q5,bTn hb q5⟩) (run_index57l _ _ _ _ hltK) rfl rfl rfl rfl rfl rfl rfl (Nat.le_of_ble_eq_true rfl) ?_
   intro a W9 hs hd hkp hS9 hval
   have e75:a.tmps.getD 75 undef=.pointer (some ⟨w1.heap.size,j,none⟩):=hval 13 75 (by decide) rfl
   obtain⟨b9,e74,f74,z74⟩:=hval 12 74 (by decide) rfl
   have hS:Below wr.heap.size wr W9:=hS9
   have ho9:=oBe ho hS
   have cell9:W9.cell? ⟨w1.heap.size,j,none⟩=some u:=(ho9.cellAt j (by omega)).trans hu
   have froz9:=ho9.frozenAt j
   rw[e75,e74]
   refine⟨_,run_store70 cell9 froz9,?_⟩
   have ep:=fPu [62,63,64,65,66,67,68,69,70,71,72,73,74,75] hs hd (fun s h=>hkp s (fun i hi e=>h (by
    rcases (show i=0∨i=1∨i=2∨i=3∨i=4∨i=5∨i=6∨i=7∨i=8∨i=9∨i=10∨i=11∨i=12∨i=13∨i=14 by omega) with rfl|rfl|rfl|rfl|rfl|rfl|rfl|rfl|rfl|rfl|rfl|rfl|rfl|rfl|rfl<;>(simp only[mrD,Option.some.injEq] at e;first|(subst e;simp)|cases e))))
   simp only[List.foldl] at ep
   rw[e75] at ep
   rw[e74] at ep
   clear hs hd hkp hval hS9 e75 e74
   generalize a.tmps.getD 62 undef=g62,a.tmps.getD 63 undef=g63,a.tmps.getD 64 undef=g64,a.tmps.getD 65 undef=g65,a.tmps.getD 66 undef=g66,a.tmps.getD 67 undef=g67,a.tmps.getD 68 undef=g68,a.tmps.getD 69 undef=g69,a.tmps.getD 70 undef=g70,a.tmps.getD 71 undef=g71,a.tmps.getD 72 undef=g72,a.tmps.getD 73 undef=g73 at ep
   simp only[Act.put,List.setIfInBounds_toArray,List.set_cons_succ,List.set_cons_zero] at ep
   subst ep
   have hB9:Below w1.heap.size w1 (W9.setCell ⟨w1.heap.size,j,none⟩ (.slice (some b9) n5 n5)):=(bTn hbr hS).setCell (Nat.le_refl _) _
   have R':=hdn (And.intro hB9 (And.intro (ho9.stored j (.slice (some b9) n5 n5)).1 (show ∀ i,i<j+1→(cs.set j (Value.slice (some b9) n5 n5))[i]? = some (.slice (some (if i=j then b9 else AA i)) n5 n5)∧Reads .i64 (W9.setCell ⟨w1.heap.size,j,none⟩ (.slice (some b9) n5 n5)) (some (if i=j then b9 else AA i)) n5 (rowsL ro U D xs i)∧(if i=j then b9 else AA i).block≠w1.heap.size from by
    intro i hi'
    by_cases e:i=j
    ·subst e
     simp only[if_true]
     exact⟨by simp[hlen,hltK],EO.out ▸ f74.setOff (fun e=>z74 e.symm) _,z74⟩
    ·simp only[if_neg e]
     obtain⟨q1,q2,q3⟩:=hcs i (by omega)
     exact⟨by rw[List.getElem?_set_ne (by omega)];exact q1,(q2.below hS).setOff (fun e=>q3 e.symm) _,q3⟩)))
   clear hB9 ho9 cell9 froz9 hS f74 ho hcs hu hlen cx cy ko cp'
   go_wp2
   go_roundw
   case rel=>exact⟨j+1,by omega,by go_num,R'.out.1,_,_,R'.out.2.1,R'.out.2.2⟩
   case measure=>simp[intOf];omega
  ·have e:j=K:=by omega
   subst e
   rename World=>W2
   have G:Grid W2 (some ⟨w1.heap.size,0,none⟩) j (fun i=>some (AA i)) (fun _=>n5) (rowsL ro U D xs) :=
    ⟨by omega,fun _=>⟨_,rfl⟩,fun z hz r hr=>by
     obtain rfl:=Option.some.inj hz
     rw[hrl' r hr]
     exact ho.cells (g:=w1.heap.size) rfl r _ (hcs r hr).1,fun r hr=>by rw[hrl' r hr];exact (hcs r hr).2.1⟩
   replace hrs:=hrs.below hbr
   have bw:=bTn hb1 hbr
   clear hcs ho hrp hat hlt' hall' g1 g2
   go_wp2_with (at_make;refine wpList_make_full _ rfl (.tmp 78) (.tmp 78) 70 rfl W2.heap.size 2 i0 (.int .i64 0) 1 Tryz.underlying70 hi hz0 hz1 .i64 .i64 _ _ n5 rfl rfl rfl rfl (by rw[hz2];omega) (by unfold maxLen;omega) (Nat.le_refl _) ?_;intro w3 hown hgrow)
   have hb3:Below W2.heap.size W2 w3:=(Below.refl _ _).grown hgrow (Nat.le_refl _) (fun k h=>by cases h)
   go_wp2
   go_loopw [82] (fun i wr=>∃ q:Nat,q≤n5∧i=.int .i64 q∧Below W2.heap.size W2 wr∧∃ cs,wr.ownsRow W2.heap.size 2 1 (.slice (some ⟨W2.heap.size,0,none⟩) n5 n5) n5 cs∧∀ i,i<q→cs[i]? = some (.int .i64 (blendZ (fun j=>SS.getD j 0) (rowsL ro U D xs) j i))) (fun i _=>n5-(intOf i).toNat)
   case atStart=>exact⟨0,Nat.zero_le _,rfl,hb3,_,hown,fun j hj=>by omega⟩
   case round =>
    clear hown hgrow hb3
    obtain⟨q,hq,rfl,hbq,ds,hoq,hds⟩:=hrel
    by_cases hltq:q<n5
    ·have kb:=blend_call aq j cq SS (some ⟨w1.heap.size,0,none⟩) j (fun i=>some (AA i)) (fun _=>n5) (rowsL ro U D xs) q wr (hrs.below hbq) (G.below hbq) (fun i hi'=>by rw[hrl' i hi'];exact hltq) hsb (fun i _=>matL_bounds _ _ _)
     have hlen:=oLe hoq
     have cell:wr.cell? ⟨W2.heap.size,q,none⟩=ds[q]?:=hoq.cellAt q (by omega)
     obtain⟨u,hu⟩:∃ u,ds[q]? = some u:=⟨ds[q],by simp[hlen,hltq]⟩
     rw[hu] at cell
     have froz:=hoq.frozenAt q
     obtain⟨Z,eZ⟩:∃ Z,blendZ (fun j=>SS.getD j 0) (rowsL ro U D xs) j q=Z:=⟨_,rfl⟩
     have R':=hdn (And.intro (hbq.setCell (p:=⟨W2.heap.size,q,none⟩) (Nat.le_refl _) (.int .i64 Z)) (And.intro (hoq.stored q (.int .i64 Z)).1 (set_step (F:=fun i=>Value.int .i64 (blendZ (fun j=>SS.getD j 0) (rowsL ro U D xs) j i)) hlen hltq (show Value.int .i64 Z=.int .i64 (blendZ (fun j=>SS.getD j 0) (rowsL ro U D xs) j q) by rw[eZ]) hds)))
     rw[eZ] at kb
     clear eZ hoq hds hu hlen hbq
     go_wp2_with (go_at_call 229;refine kb.mono ?_;rintro e w' ⟨rfl,hq'⟩;obtain rfl:=hq'.symm)
     go_roundw
     case rel=>exact⟨q+1,by omega,by go_num,R'.out.1,_,R'.out.2.1,R'.out.2.2⟩
     case measure=>simp[intOf];omega
    ·have e:q=n5:=by omega
     subst e
     have fin:=oRa (zs:=sumL ro U D (j:Int) xs) hoq hsl (wf_sumL _ _ _ _ _) (fun i hi'=>by
      rw[hds i hi',hsa i hi',←ESS.out]
      rfl)
     clear hds hoq
     go_wp2
     go_ret
     exact⟨⟨_,_,rfl,fin⟩,bTn bw hbq⟩
theorem mix_ok (a0:Option Addr)(n0 c0:Nat)(ro:List Int)(a1:Option Addr)(n c1:Nat)(A1:Nat→Option Addr)(C1:Nat→Nat)(U:Nat→List Int)(a2:Option Addr)(m c2:Nat)(A2:Nat→Option Addr)(C2:Nat→Nat)(D:Nat→List Int)(h k:Int)(a5:Option Addr)(n5 c5:Nat)(xs:List Int)(w:World)(h0:Reads .i8 w a0 n0 ro)(l0:n0≤c0)(g1:Nets w a1 n A1 C1 U)(g2:Nets w a2 m A2 C2 D)(h5:Reads .i64 w a5 n5 xs)(wh:(Lit.int .i64 h).wf=true)(wk:(Lit.int .i64 k).wf=true)(b0:n0*8≤140737488355328)(b1:n*24≤140737488351232)(b5:n5*8≤140737488355328)(hE:mixE ro n m U D h k xs=0) :
  Calls Tryz.prog 208 #[.slice a0 n0 c0,.slice a1 n c1,.slice a2 m c2,.int .i64 h,.int .i64 k,.slice a5 n5 c5] w fun e w'=>(∃ a c,e=.returned (.slice a n5 c)∧Reads .i64 w' a n5 (mixL ro n U D k xs))∧Below w.heap.size w w':=by
 unfold mixE at hE
 by_cases c1':n=0∨n≠m
 ·rw[if_pos c1'] at hE
  exact absurd hE (by decide)
 ·rw[if_neg c1'] at hE
  have hm:n=m:=by omega
  unfold mixL
  by_cases c2':n=1
  ·rw[if_pos c2'] at hE ⊢
   cases hf:oneB (U 0) (D 0) h xs with
   | true=>exact (mix_one_yes a0 n0 c0 ro a1 n c1 A1 C1 U a2 m c2 A2 C2 D h k a5 n5 c5 xs w h0 l0 g1 g2 h5 wh wk b0 b1 b5 c2' (by omega) hf).mono fun e w' ⟨⟨a,he,hr⟩,hb⟩=>⟨⟨some a,n5,he,hr⟩,hb⟩
   | false =>
    rw[hf] at hE
    exact absurd hE (by decide)
  ·rw[if_neg c2'] at hE ⊢
   cases hf:routeB ro n k xs with
   | false =>
    rw[if_pos hf] at hE
    exact absurd hE (routeE_ne hf)
   | true =>
    rw[if_neg (by rw[hf];decide)] at hE
    cases hr:restB ro U D h k.toNat xs with
    | true=>exact mix_yes a0 n0 c0 ro a1 n c1 A1 C1 U a2 m c2 A2 C2 D h k a5 n5 c5 xs w h0 l0 g1 g2 h5 wh wk b0 b1 b5 (by omega) hm hf hr
    | false =>
     rw[hr] at hE
     exact absurd hE (by decide)
theorem Mix_yes (a0:Option Addr)(n0 c0:Nat)(ro:List Int)(a1:Option Addr)(n c1:Nat)(A1:Nat→Option Addr)(C1:Nat→Nat)(U:Nat→List Int)(a2:Option Addr)(m c2:Nat)(A2:Nat→Option Addr)(C2:Nat→Nat)(D:Nat→List Int)(h k:Int)(a5:Option Addr)(n5 c5:Nat)(xs:List Int)(w:World)(h0:Reads .i8 w a0 n0 ro)(l0:n0≤c0)(g1:Nets w a1 n A1 C1 U)(g2:Nets w a2 m A2 C2 D)(h5:Reads .i64 w a5 n5 xs)(wh:(Lit.int .i64 h).wf=true)(wk:(Lit.int .i64 k).wf=true)(b0:n0*8≤140737488355328)(b1:n*24≤140737488351232)(b5:n5*8≤140737488355328)(hE:mixE ro n m U D h k xs=0) :
  Calls Tryz.prog 181 #[.slice a0 n0 c0,.slice a1 n c1,.slice a2 m c2,.int .i64 h,.int .i64 k,.slice a5 n5 c5] w fun e w'=>(∃ a c,e=.returned (.tuple #[.slice a n5 c,.int .i64 0])∧Reads .i64 w' a n5 (mixL ro n U D k xs))∧Below w.heap.size w w':=by
 have hmf:∀ (fn:Fn) (first cap:Array Value) (w:World),(Instr.makeFunc fn first cap).run Tryz.prog w=.ok (.func fn first cap) w:=fun _ _ _ _=>rfl
 have ko:Calls Tryz.prog 208 #[.slice a0 n0 c0,.slice a1 n c1,.slice a2 m c2,.int .i64 h,.int .i64 k,.slice a5 n5 c5] (w.alloc (.cells #[.int .i64 0] 40)) fun e W1=>∃ a c,e=.returned (.slice a n5 c)∧(W1.cell? ⟨w.heap.size,0,none⟩=some (.int .i64 0)∧W1.frozen? ⟨w.heap.size,0,none⟩=false) ∧
   Hid (Reads .i64 W1 a n5 (mixL ro n U D k xs)∧Below w.heap.size w W1):=by
  have bn:=bNw (Below.refl w.heap.size w) (.cells #[.int .i64 0] 40)
  refine (mix_ok a0 n0 c0 ro a1 n c1 A1 C1 U a2 m c2 A2 C2 D h k a5 n5 c5 xs _ (h0.below bn) l0 (g1.below bn) (g2.below bn) (h5.below bn) wh wk b0 b1 b5 hE).mono ?_
  rintro e W1 ⟨⟨a,c,rfl,hr⟩,hb⟩
  obtain⟨q1,q2,q3⟩:=face_box hb
  exact⟨a,c,rfl,⟨q1,q2⟩,hr,q3⟩
 go_enter_defers Tryz.func181,Tryz.ntmps181
 go_wp2_with (go_at_call 208;refine ko.mono ?_;rintro e W1 ⟨a,c,rfl,⟨q1,q2⟩,H⟩)
 refine leaves_cons (f:=206) (args:=#[.pointer (some ⟨w.heap.size,0,none⟩)]) (by simp) (by simp[go_sem]) ?_
 rw[sSa q1]
 refine (catch_idle21 ⟨w.heap.size,0,none⟩ 0 _ q1 q2).mono ?_
 rintro e u' w'' ⟨rfl,rfl,rfl⟩
 rw[sSa q1]
 simp[Leaves,settle,results,Tryz.results181,go_sem,q1]
 exact H.out
end Go.Proofs.YtbkjhfmehemgpaaGreat

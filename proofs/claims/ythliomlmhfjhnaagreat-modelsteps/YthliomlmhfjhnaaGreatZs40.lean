/- Texts put together. -/
import Derived.Test.YthliomlmhfjhnaaGreatZs22
import Derived.Test.YthliomlmhfjhnaaGreatZs25
import Derived.Test.YthliomlmhfjhnaaGreatZs19
namespace Go.Proofs.YthliomlmhfjhnaaGreat
set_option maxRecDepth 20000
set_option maxHeartbeats 16000000
open Go.ChangeShapes Go.WideShapes Go.ChangeAt Go.RowKit
set_option linter.unusedVariables false
set_option linter.unusedSimpArgs false
theorem made_zeros (n j:Nat)(hj:j<n):((madeCells (Value.int .i64 0).cells (n*1)).toList)[j]? = some (.int .i64 0):=by
 rw[Nat.mul_one]
 simp[madeCells,Value.cells,hj,Nat.mod_one]
theorem wrap_in {z:Int}(h0:-9223372036854775808≤z)(h1:z≤9223372036854775807):IntKind.i64.wrap z=z:=by
 simp[IntKind.wrap,IntKind.signed,IntKind.bits]
 omega
theorem run_mul2 (x y z:Int)(e:x*y=z)(h0:-9223372036854775808≤z)(h1:z≤9223372036854775807)(w:World):(binOp .mul 2 (.int .i64 x) (.int .i64 y)).run Tryz.prog w=.ok (.int .i64 z) w:=by
 have:=wrap_in h0 h1
 go_simp
theorem own_drew {w:World}{B:Nat}{e:TypeId}{v:Value}{n:Nat}{xs:List Value}(h:w.ownsRow B e 1 v n xs):w.drew.ownsRow B e 1 v n xs:=oBe h (Below.refl _ _).drew
theorem refMix_yes (a0:Option Addr)(n0 c0:Nat)(ro:List Int)(a1:Option Addr)(n c1:Nat)(A1:Nat→Option Addr)(C1:Nat→Nat)(U:Nat→List Int)(a2:Option Addr)(m c2:Nat)(A2:Nat→Option Addr)(C2:Nat→Nat)(D:Nat→List Int)(h k:Int)(a5:Option Addr)(n5 c5:Nat)(xs:List Int)(w:World)(h0:Reads .i8 w a0 n0 ro)(l0:n0≤c0)(g1:Nets w a1 n A1 C1 U)(g2:Nets w a2 m A2 C2 D)(h5:Reads .i64 w a5 n5 xs)(wh:(Lit.int .i64 h).wf=true)(wk:(Lit.int .i64 k).wf=true)(b0:n0*8≤140737488355328)(b1:n*24≤140737488351232)(b5:n5*8≤140737488355328)(hn:1<n)(hm:n=m)(hf:routeB ro n k xs=true)(hr:restB ro U D h k.toNat xs=true) :
  Calls Tryz.prog 71 #[.slice a0 n0 c0,.slice a1 n c1,.slice a2 m c2,.int .i64 h,.int .i64 k,.slice a5 n5 c5] w fun e w'=>(∃ a c,e=.returned (.tuple #[.slice a n5 c,.int .i64 0])∧Reads .i64 w' a n5 (sumL ro U D k xs))∧Below w.heap.size w w':=by
 have hall:=fun j (hj:j<k.toNat)=>restB_yes hr hj
 clear hr
 subst hm
 have hm1:=g1.grid.max
 have p1:((n:Int)==0)=false:=by simp;omega
 have p2:((n:Int)==1)=false:=by simp;omega
 have hlt0:=fun j (h:j<k.toNat)=>plc_lt hf h
 have hat0:=fun j (h:j<k.toNat)=>routeP_at hf h
 have kr:=refRoute_yes a0 n0 c0 ro n k a5 n5 c5 xs w h0 l0 h5 (WalkArith.wf_i64 ⟨by omega,by omega⟩) wk b0 hf
 have hb':(decide (1≤k) && decide (k≤n) && fitB ro.length n xs.length)=true:=hf
 simp only[Bool.and_eq_true,decide_eq_true_eq] at hb'
 obtain⟨⟨hk1,hk2⟩,-⟩:=hb'
 obtain⟨K,eK⟩:∃ K,k.toNat=K:=⟨_,rfl⟩
 obtain rfl:k=(K:Int):=by omega
 have Kn:K≤n:=by omega
 have hlt':∀ j,j<K→plc ro xs j<n:=fun j h=>by have:=hlt0 j (by omega);omega
 have hat:∀ j,j<K→(routeP ro (K:Int) xs).getD j 0=((plc ro xs j:Nat):Int):=fun j h=>hat0 j (by omega)
 have hsb:=fun j=>routeS_bounds ro (K:Int) xs j
 clear hlt0 hat0 hf
 obtain⟨i0,hi,hz0,hz1,hz2⟩:=info_parts info2
 obtain⟨x,rfl⟩:=g1.grid.some_ (by omega)
 obtain⟨y,rfl⟩:=g2.grid.some_ (by omega)
 obtain⟨SP,eSP⟩:∃ SP,routeP ro (K:Int) xs=SP:=⟨_,rfl⟩
 obtain⟨SS,eSS⟩:∃ SS,routeS ro (K:Int) xs=SS:=⟨_,rfl⟩
 rw[eK,eSP,eSS] at kr
 rw[eSP] at hat
 rw[eSS] at hsb
 have ESS:Hid (routeS ro (K:Int) xs=SS):=eSS
 have hall':∀ j,j<K→oneB (U (plc ro xs j)) (D (plc ro xs j)) h xs=true:=fun j hj=>hall j (by omega)
 have hsl:=sumL_length ro U D (K:Int) xs
 have hsa:=fun i=>sumL_at ro U D (K:Int) xs i
 rw[h5.len] at hsl hsa
 clear eK eSP eSS hall
 go_enter Tryz.func71,Tryz.ntmps71
 go_wp2_with (first
  | (go_at_call 111;refine kr.mono ?_;rintro e w1 ⟨⟨ap,cp,aq,cq,rfl,hrp,hrs⟩,hb1⟩)
  | (at_make;refine wpList_make_full _ rfl (.tmp 61) (.tmp 61) 34 rfl w1.heap.size 2 i0 (.int .i64 0) 1 Tryz.underlying34 hi hz0 hz1 .i64 .i64 _ _ n5 rfl rfl rfl rfl (by rw[hz2];omega) (by unfold maxLen;omega) (Nat.le_refl _) ?_;intro w2 hown hgrow))
 have hb2:Below w1.heap.size w1 w2:=(Below.refl _ _).grown hgrow (Nat.le_refl _) (fun k h=>by cases h)
 obtain⟨tp,rfl⟩:=hrp.some_ (by omega)
 obtain⟨tq,rfl⟩:=hrs.some_ (by omega)
 clear kr
 go_wp2
 go_loopw [18] (fun i wr=>∃ j:Nat,j≤K∧i=.int .i64 j∧Below w1.heap.size w1 wr∧∃ cs,wr.ownsRow w1.heap.size 2 1 (.slice (some ⟨w1.heap.size,0,none⟩) n5 n5) n5 cs∧∀ i,i<n5→cs[i]? = some (.int .i64 (blendTo (fun j=>SS.getD j 0) (rowsL ro U D xs) i j))) (fun i _=>K-(intOf i).toNat)
 case atStart=>exact⟨0,Nat.zero_le _,rfl,hb2,_,hown,fun j hj=>made_zeros n5 j hj⟩
 case round =>
  clear hown hgrow hb2
  obtain⟨j,hj,rfl,hbr,cs,ho,hcs⟩:=hrel
  by_cases hltK:j<K
  ·have HF:=hall' j hltK
   have pj:=hlt' j hltK
   have cp':=fun (W:World) (hb:Below wr.heap.size wr W)=>((hrp.below hbr).below hb).cell tp rfl j hltK
   simp only[hat j hltK] at cp'
   have bw:=bTn hb1 hbr
   have cx:=fun (W:World) (hb:Below wr.heap.size wr W)=>(g1.grid.below (bTn bw hb)).cell x rfl (plc ro xs j) pj
   have cy:=fun (W:World) (hb:Below wr.heap.size wr W)=>(g2.grid.below (bTn bw hb)).cell y rfl (plc ro xs j) pj
   have ko:=fun (W:World) (hb:Below wr.heap.size wr W)=>refOne_yes (A1 (plc ro xs j)) (U (plc ro xs j)).length (C1 (plc ro xs j)) (U (plc ro xs j)) (A2 (plc ro xs j)) (D (plc ro xs j)).length (C2 (plc ro xs j)) (D (plc ro xs j)) h a5 n5 c5 xs W ((g1.grid.row _ pj).below (bTn bw hb)) (g1.cap _ pj) ((g2.grid.row _ pj).below (bTn bw hb)) (g2.cap _ pj) (h5.below (bTn bw hb)) wh (g1.bnd _ pj) (g2.bnd _ pj) HF
   have hlen:=oLe ho
   have hsz:=hbr.size
   have hw1:w1.heap.size<wr.heap.size:=(ho.lt _ rfl).2
   obtain⟨O,eO⟩:∃ O,oneL (U (plc ro xs j)) (D (plc ro xs j)) xs=O:=⟨_,rfl⟩
   have EO:Hid (rowsL ro U D xs j=O):=eO
   have ob:∀ i,-2147483648≤O.getD i 0∧O.getD i 0≤2147483647:=fun i=>by rw[←eO];exact matL_bounds _ _ _
   have ol:O.length=n5:=by rw[←eO,oneL_length HF,h5.len]
   rw[eO] at ko
   obtain⟨p,ep⟩:∃ p,plc ro xs j=p:=⟨_,rfl⟩
   rw[ep] at pj cp' cx cy ko
   clear eO ep HF
   go_wp2
   refine rp_region x y n c1 c2 (U p).length (C1 p) (D p).length (C2 p) n5 c5 (A1 p) (A2 p) a5 h tp K cp j p w1.heap.size O 0 (fun W=>Below wr.heap.size wr W) (by kernel_rfl) rfl ⟨_,rfl,rfl,rfl,rfl,by kernel_rfl⟩ ⟨_,rfl,rfl,rfl,rfl,by kernel_rfl⟩ ⟨_,rfl,rfl,rfl,rfl,by kernel_rfl⟩ ⟨_,rfl,rfl,rfl,rfl,by kernel_rfl⟩ ⟨_,rfl,rfl,rfl,rfl,by kernel_rfl⟩ ⟨_,rfl,rfl,rfl,rfl,by kernel_rfl⟩ ⟨_,rfl,rfl,rfl,rfl,by kernel_rfl⟩ ⟨_,rfl,rfl,rfl,rfl,by kernel_rfl⟩ ⟨_,rfl,rfl,rfl,rfl,by kernel_rfl⟩ ⟨_,rfl,rfl,rfl,rfl,by kernel_rfl⟩ ⟨_,rfl,rfl,rfl,rfl,by kernel_rfl⟩ ⟨_,rfl,rfl,rfl,rfl,by kernel_rfl⟩ ⟨_,rfl,rfl,rfl,rfl,by kernel_rfl⟩ ⟨_,rfl,rfl,rfl,rfl,by kernel_rfl⟩ ⟨_,rfl,rfl,rfl,rfl,by kernel_rfl⟩ ⟨_,rfl,rfl,rfl,rfl,by kernel_rfl⟩ ⟨_,rfl,rfl,rfl,rfl,by kernel_rfl⟩ ⟨_,rfl,rfl,rfl,rfl,by kernel_rfl⟩ ⟨_,rfl,rfl,rfl,rfl,by kernel_rfl⟩ ⟨_,rfl,rfl,rfl,rfl,by kernel_rfl⟩ ⟨_,rfl,rfl,rfl,rfl,by kernel_rfl⟩ ⟨_,rfl,rfl,rfl,rfl,by kernel_rfl⟩ (Below.refl _ _).drew (run_index32 _ _ _ _ hltK) (fun W hb=>run_load3 (cp' W hb)) (run_index23 _ _ _ _ pj) (fun W hb=>run_load24 (cx W hb)) (run_index32 _ _ _ _ hltK) (fun W hb=>run_load3 (cp' W hb)) (run_index23 _ _ _ _ pj) (fun W hb=>run_load24 (cy W hb)) (fun W hb=>(ko W hb).mono fun e w' ⟨⟨b,bc,q1,q2,q3⟩,q5⟩=>⟨b,n5,bc,q1,q2,(fun z hz q=>by have:=q3 z hz;have:=hb.size;omega),q5,bTn hb q5⟩) rfl rfl rfl rfl rfl rfl (Nat.le_of_ble_eq_true rfl) ?_
   intro a W9 hs hd hkp hS9 hval
   have e20:a.tmps.getD 20 undef=.int .i64 0:=hval 21 20 (by decide) rfl
   obtain⟨b9,n9,c9,e19,f19,z19⟩:=hval 20 19 (by decide) rfl
   have ep:=fPu [70,71,72,73,74,75,76,77,78,79,80,81,82,83,84,85,86,69,87,88,19,20] hs hd (fun s h=>hkp s (fun i hi e=>h (by
    rcases (show i=0∨i=1∨i=2∨i=3∨i=4∨i=5∨i=6∨i=7∨i=8∨i=9∨i=10∨i=11∨i=12∨i=13∨i=14∨i=15∨i=16∨i=17∨i=18∨i=19∨i=20∨i=21 by omega) with rfl|rfl|rfl|rfl|rfl|rfl|rfl|rfl|rfl|rfl|rfl|rfl|rfl|rfl|rfl|rfl|rfl|rfl|rfl|rfl|rfl|rfl<;>(simp only[rpD,Option.some.injEq] at e;subst e;simp))))
   simp only[List.foldl] at ep
   rw[e20] at ep
   rw[e19] at ep
   have H9:=hdn hS9
   clear hs hd hkp hval hS9 e20 e19
   generalize a.tmps.getD 70 undef=g70,a.tmps.getD 71 undef=g71,a.tmps.getD 72 undef=g72,a.tmps.getD 73 undef=g73,a.tmps.getD 74 undef=g74,a.tmps.getD 75 undef=g75,a.tmps.getD 76 undef=g76,a.tmps.getD 77 undef=g77,a.tmps.getD 78 undef=g78,a.tmps.getD 79 undef=g79,a.tmps.getD 80 undef=g80,a.tmps.getD 81 undef=g81,a.tmps.getD 82 undef=g82,a.tmps.getD 83 undef=g83,a.tmps.getD 84 undef=g84,a.tmps.getD 85 undef=g85,a.tmps.getD 86 undef=g86,a.tmps.getD 69 undef=g69,a.tmps.getD 87 undef=g87,a.tmps.getD 88 undef=g88 at ep
   simp only[Act.put,List.setIfInBounds_toArray,List.set_cons_succ,List.set_cons_zero] at ep
   subst ep
   obtain rfl:n9=n5:=f19.len.symm.trans ol
   have hS:Below wr.heap.size wr W9:=H9.out
   have ho9:=oBe ho hS
   have hb9:=bTn hbr hS
   clear H9 hS ho hbr ko cx cy cp' bw
   rename_i wr0 _
   go_wp2
   go_loopw [21] (fun i wr=>∃ q:Nat,q≤n9∧i=.int .i64 q∧Below w1.heap.size w1 wr∧Reads .i64 wr b9 n9 O∧∃ ds,wr.ownsRow w1.heap.size 2 1 (.slice (some ⟨w1.heap.size,0,none⟩) n9 n9) n9 ds∧∀ i,i<n9→ds[i]? = some (.int .i64 (blendTo (fun j=>SS.getD j 0) (rowsL ro U D xs) i (if i<q then j+1 else j)))) (fun i _=>n9-(intOf i).toNat)
   case atStart=>exact⟨0,Nat.zero_le _,rfl,hb9,f19,_,ho9,fun i hi'=>by rw[if_neg (by omega)];exact hcs i hi'⟩
   case round =>
    clear ho9 hb9 f19 hcs
    obtain⟨q,hq,rfl,hbq,hrO,ds,hoq,hds⟩:=hrel
    by_cases hltq:q<n9
    ·obtain⟨b9',rfl⟩:=hrO.some_ (by omega)
     have hlenq:=oLe hoq
     have hdq:=hds q hltq
     rw[if_neg (Nat.lt_irrefl q)] at hdq
     have cB:wr.drew.cell? ⟨w1.heap.size,q,none⟩=some (.int .i64 (blendTo (fun j=>SS.getD j 0) (rowsL ro U D xs) q j)):=(hoq.cellAt q (by omega)).trans hdq
     have froz:wr.drew.frozen? ⟨w1.heap.size,q,none⟩=false:=hoq.frozenAt q
     have cS:wr.drew.cell? (tq.add j)=some (.int .i64 (SS.getD j 0)):=(hrs.below hbq).cell tq rfl j hltK
     have cY:wr.drew.cell? (b9'.add q)=some (.int .i64 (O.getD q 0)):=hrO.cell b9' rfl q hltq
     have pb:=prodM_bounds _ _ (hsb j) (ob q)
     have wS:=wf_blendTo (fun j=>SS.getD j 0) (rowsL ro U D xs) q j
     have es:blendTo (fun j=>SS.getD j 0) (rowsL ro U D xs) q (j+1)=addZ (blendTo (fun j=>SS.getD j 0) (rowsL ro U D xs) q j) (SS.getD j 0*O.getD q 0):=by rw[←EO.out];rfl
     obtain⟨X0,e0⟩:∃ X0,blendTo (fun j=>SS.getD j 0) (rowsL ro U D xs) q j=X0:=⟨_,rfl⟩
     obtain⟨X1,e1⟩:∃ X1,SS.getD j 0=X1:=⟨_,rfl⟩
     obtain⟨X2,e2⟩:∃ X2,O.getD q 0=X2:=⟨_,rfl⟩
     rw[e0] at cB wS
     rw[e1] at cS pb
     rw[e2] at cY pb
     rw[e0,e1,e2] at es
     obtain⟨X3,e3⟩:∃ X3,X1*X2=X3:=⟨_,rfl⟩
     rw[e3] at pb es
     have p30:-9223372036854775808≤X3:=by omega
     have p31:X3≤9223372036854775807:=by omega
     have ka:=fun W=>refAdd_call X0 X3 wS (WalkArith.wf_i64 ⟨p30,p31⟩) W
     obtain⟨X4,e4⟩:∃ X4,addZ X0 X3=X4:=⟨_,rfl⟩
     rw[e4] at ka es
     have Rb:Below w1.heap.size w1 (wr.drew.setCell ⟨w1.heap.size,q,none⟩ (.int .i64 X4)):=(hbq.drew).setCell (Nat.le_refl _) _
     have Ro:Reads .i64 (wr.drew.setCell ⟨w1.heap.size,q,none⟩ (.int .i64 X4)) (some b9') n9 O:=(hrO.drewN 1).setOff (fun e=>z19 b9' rfl e.symm) _
     have R':=hdn (And.intro Rb (And.intro Ro (And.intro (show (wr.drew.setCell ⟨w1.heap.size,q,none⟩ (.int .i64 X4)).ownsRow w1.heap.size 2 1 (.slice (some ⟨w1.heap.size,0,none⟩) n9 n9) n9 (ds.set q (.int .i64 X4)) from ((own_drew hoq).stored q _).1) (show ∀ i,i<n9→(ds.set q (Value.int .i64 X4))[i]? = some (.int .i64 (blendTo (fun j=>SS.getD j 0) (rowsL ro U D xs) i (if i<q+1 then j+1 else j))) from by
      intro i hi'
      by_cases e:i=q
      ·subst e
       rw[if_pos (by omega),es]
       simp[hlenq,hltq]
      ·rw[List.getElem?_set_ne (by omega),hds i hi']
       by_cases hiq:i<q
       ·rw[if_pos hiq,if_pos (by omega)]
       ·rw[if_neg hiq,if_neg (by omega)]))))
     clear es e0 e1 e2 e4 wS pb hdq hds hoq hrO hbq hlenq Rb Ro
     go_wp2
     refine rs_region tq b9' w1.heap.size K n9 cq c9 j q X0 X1 X2 X3 X4 (fun W=>W=wr.drew) (by kernel_rfl) rfl ⟨_,rfl,rfl,rfl,rfl,by kernel_rfl⟩ ⟨_,rfl,rfl,rfl,rfl,by kernel_rfl⟩ ⟨_,rfl,rfl,rfl,rfl,by kernel_rfl⟩ ⟨_,rfl,rfl,rfl,rfl,by kernel_rfl⟩ ⟨_,rfl,rfl,rfl,rfl,by kernel_rfl⟩ ⟨_,rfl,rfl,rfl,rfl,by kernel_rfl⟩ ⟨_,rfl,rfl,rfl,rfl,by kernel_rfl⟩ ⟨_,rfl,rfl,rfl,rfl,by kernel_rfl⟩ ⟨_,rfl,rfl,rfl,rfl,by kernel_rfl⟩ ⟨_,rfl,rfl,rfl,rfl,by kernel_rfl⟩ ⟨_,rfl,rfl,rfl,rfl,by kernel_rfl⟩ ⟨_,rfl,rfl,rfl,rfl,by kernel_rfl⟩ ⟨_,rfl,rfl,rfl,rfl,by kernel_rfl⟩ ⟨_,rfl,rfl,rfl,rfl,by kernel_rfl⟩ ⟨_,rfl,rfl,rfl,rfl,by kernel_rfl⟩ ⟨_,rfl,rfl,rfl,rfl,by kernel_rfl⟩ ⟨_,rfl,rfl,rfl,rfl,by kernel_rfl⟩ ⟨_,rfl,rfl,rfl,rfl,by kernel_rfl⟩ rfl (run_index24l _ _ _ _ hltq) (fun W hW=>by rw[hW];exact run_load2 cB) (run_index24 _ _ _ _ hltK) (fun W hW=>by rw[hW];exact run_load2 cS) (run_index24 _ _ _ _ hltq) (fun W hW=>by rw[hW];exact run_load2 cY) (run_mul2 _ _ _ e3 p30 p31) (fun W _=>ka W) (run_index24l _ _ _ _ hltq) rfl rfl rfl rfl rfl (Nat.le_of_ble_eq_true rfl) ?_
     intro a W9 hs hd hkp hS9 hval
     have e113:a.tmps.getD 113 undef=.int .i64 X4:=hval 15 113 (by decide) rfl
     have e114:a.tmps.getD 114 undef=.pointer (some ⟨w1.heap.size,q,none⟩):=hval 16 114 (by decide) rfl
     have hW9:W9=wr.drew:=hS9
     subst hW9
     rw[e113,e114]
     refine⟨_,run_store2 cB froz,?_⟩
     have ep:=fPu [98,99,100,101,102,103,104,105,106,107,108,109,110,111,112,113,114] hs hd (fun s h=>hkp s (fun i hi e=>h (by
      rcases (show i=0∨i=1∨i=2∨i=3∨i=4∨i=5∨i=6∨i=7∨i=8∨i=9∨i=10∨i=11∨i=12∨i=13∨i=14∨i=15∨i=16∨i=17 by omega) with rfl|rfl|rfl|rfl|rfl|rfl|rfl|rfl|rfl|rfl|rfl|rfl|rfl|rfl|rfl|rfl|rfl|rfl<;>(simp only[rsD,Option.some.injEq] at e;first|(subst e;simp)|cases e))))
     simp only[List.foldl] at ep
     rw[e113] at ep
     rw[e114] at ep
     clear hs hd hkp hval hS9 e113 e114
     generalize a.tmps.getD 98 undef=g98,a.tmps.getD 99 undef=g99,a.tmps.getD 100 undef=g100,a.tmps.getD 101 undef=g101,a.tmps.getD 102 undef=g102,a.tmps.getD 103 undef=g103,a.tmps.getD 104 undef=g104,a.tmps.getD 105 undef=g105,a.tmps.getD 106 undef=g106,a.tmps.getD 107 undef=g107,a.tmps.getD 108 undef=g108,a.tmps.getD 109 undef=g109,a.tmps.getD 110 undef=g110,a.tmps.getD 111 undef=g111,a.tmps.getD 112 undef=g112 at ep
     simp only[Act.put,List.setIfInBounds_toArray,List.set_cons_succ,List.set_cons_zero] at ep
     subst ep
     go_wp2
     go_roundw
     case rel=>exact⟨q+1,by omega,by go_num,R'.out.1,R'.out.2.1,_,R'.out.2.2.1,R'.out.2.2.2⟩
     case measure=>simp[intOf];omega
    ·have e:q=n9:=by omega
     subst e
     have R':=hdn (And.intro hbq (And.intro hoq (show ∀ i,i<q→ds[i]? = some (.int .i64 (blendTo (fun j=>SS.getD j 0) (rowsL ro U D xs) i (j+1))) from fun i hi'=>by rw[hds i hi',if_pos hi'])))
     clear hds hoq hbq hrO
     go_wp2
     go_roundw
     case rel=>exact⟨j+1,by omega,by go_num,R'.out.1,_,R'.out.2.1,R'.out.2.2⟩
     case measure=>simp[intOf];omega
  ·have e:j=K:=by omega
   subst e
   rename World=>W2
   have bw:=bTn hb1 hbr
   clear hrp hat hlt' hall' g1 g2 hrs
   go_wp2
   go_loopw [22] (fun i wr=>∃ q:Nat,q≤n5∧i=.int .i64 q∧Below w1.heap.size w1 wr∧∃ ds,wr.ownsRow w1.heap.size 2 1 (.slice (some ⟨w1.heap.size,0,none⟩) n5 n5) n5 ds∧(∀ i,i<q→ds[i]? = some (.int .i64 (blendZ (fun j=>SS.getD j 0) (rowsL ro U D xs) j i)))∧∀ i,q≤i→i<n5→ds[i]? = some (.int .i64 (blendTo (fun j=>SS.getD j 0) (rowsL ro U D xs) i j))) (fun i _=>n5-(intOf i).toNat)
   case atStart=>exact⟨0,Nat.zero_le _,rfl,hbr,_,ho,fun i hi'=>by omega,fun i _ hi'=>hcs i hi'⟩
   case round =>
    clear ho hcs hbr
    obtain⟨q,hq,rfl,hbq,ds,hoq,hd1,hd2⟩:=hrel
    by_cases hltq:q<n5
    ·have hlen:=oLe hoq
     have cell:wr.cell? ⟨w1.heap.size,q,none⟩=some (.int .i64 (blendTo (fun j=>SS.getD j 0) (rowsL ro U D xs) q j)):=(hoq.cellAt q (by omega)).trans (hd2 q (Nat.le_refl _) hltq)
     have froz:=hoq.frozenAt q
     have wS:=wf_blendTo (fun j=>SS.getD j 0) (rowsL ro U D xs) q j
     have ez:blendZ (fun j=>SS.getD j 0) (rowsL ro U D xs) j q=cZ (shiftZ (blendTo (fun j=>SS.getD j 0) (rowsL ro U D xs) q j) 16):=rfl
     obtain⟨X0,e0⟩:∃ X0,blendTo (fun j=>SS.getD j 0) (rowsL ro U D xs) q j=X0:=⟨_,rfl⟩
     rw[e0] at cell wS ez
     have ks:=fun W=>refShift_call X0 16 wS (by decide) W
     obtain⟨X1,e1⟩:∃ X1,shiftZ X0 16=X1:=⟨_,rfl⟩
     have kc:=fun W=>rCc X1 W
     rw[e1] at ks ez
     obtain⟨X2,e2⟩:∃ X2,cZ X1=X2:=⟨_,rfl⟩
     rw[e2] at kc ez
     have R':=hdn (And.intro (hbq.setCell (p:=⟨w1.heap.size,q,none⟩) (Nat.le_refl _) (.int .i64 X2)) (And.intro (hoq.stored q (.int .i64 X2)).1 (And.intro (set_step (F:=fun i=>Value.int .i64 (blendZ (fun j=>SS.getD j 0) (rowsL ro U D xs) j i)) hlen hltq (show Value.int .i64 X2=.int .i64 (blendZ (fun j=>SS.getD j 0) (rowsL ro U D xs) j q) by rw[ez]) hd1) (show ∀ i,q+1≤i→i<n5→(ds.set q (Value.int .i64 X2))[i]? = some (.int .i64 (blendTo (fun j=>SS.getD j 0) (rowsL ro U D xs) i j)) from fun i h hi'=>by rw[List.getElem?_set_ne (by omega)];exact hd2 i (by omega) hi'))))
     clear ez e0 e1 e2 hd1 hd2 hoq hbq hlen wS
     go_wp2_with (first
      | (go_at_call 74;refine (ks _).mono ?_;rintro e w' ⟨rfl,hq'⟩;obtain rfl:=hq'.symm)
      | (go_at_call 73;refine (kc _).mono ?_;rintro e w' ⟨rfl,hq'⟩;obtain rfl:=hq'.symm))
     go_roundw
     case rel=>exact⟨q+1,by omega,by go_num,R'.out.1,_,R'.out.2.1,R'.out.2.2.1,R'.out.2.2.2⟩
     case measure=>simp[intOf];omega
    ·have e:q=n5:=by omega
     subst e
     have fin:=oRa (zs:=sumL ro U D (j:Int) xs) hoq hsl (wf_sumL _ _ _ _ _) (fun i hi'=>by
      rw[hd1 i hi',hsa i hi',←ESS.out]
      rfl)
     clear hd1 hd2 hoq
     go_wp2
     go_ret2
     exact⟨⟨_,_,rfl,fin⟩,bTn hb1 hbq⟩
theorem run_add3 (x y:Int)(h0:-9223372036854775808≤x+y)(h1:x+y≤9223372036854775807)(w:World):(binOp .add 3 (.int .i64 x) (.int .i64 y)).run Tryz.prog w=.ok (.int .i64 (x+y)) w:=by
 have:=wrap_in h0 h1
 go_simp
theorem run_mul3 (x y z:Int)(e:x*y=z)(h0:-9223372036854775808≤z)(h1:z≤9223372036854775807)(w:World):(binOp .mul 3 (.int .i64 x) (.int .i64 y)).run Tryz.prog w=.ok (.int .i64 z) w:=by
 have:=wrap_in h0 h1
 go_simp
theorem run_cut22 (x:Addr)(n c P Q d:Nat)(h1:P<Q)(h2:Q≤c)(e:Q-P=d)(w:World):(Instr.sliceAt 34 (.slice (some x) n c) (some (.int .i64 P)) (some (.int .i64 Q)) none).run Tryz.prog w=.ok (.slice (some (x.add P)) d (c-P)) w:=by
 have h3:P≤Q:=by omega
 have h4:¬c=P:=by omega
 go_simp
def haD (i:Nat):Option Nat:=match i with|0=>some 39|1=>some 40|2=>some 41|3=>some 42|4=>some 43|5=>some 44|6=>some 45|7=>some 46|8=>some 47|9=>some 48|10=>some 49|11=>some 50|12=>some 51|13=>some 52|14=>some 53|15=>some 54|16=>some 55|17=>some 56|18=>some 57|19=>some 58|20=>some 59|21=>some 60|22=>some 38|23=>some 61|24=>some 62|25=>some 13|26=>some 14|_=>none
theorem haD_inj:∀ i,i<27→∀ j,j<27→haD i=haD j→haD i≠none→i=j:=by decide
theorem haD_lt:∀ i,i<27→∀ d,haD i=some d→d<67:=by
 intro i hi d h
 have:∀ i,i<27→(haD i).all (fun d=>decide (d<67))=true:=by decide
 have:=this i hi
 rw[h] at this
 simpa using this
def haF (x:Addr)(N c0 n c1 c2 P Y dd k:Nat)(a1 a2:Option Addr)(A A':Nat→Option Addr)(C C':Nat→Nat)(K V:Nat→List Int)(O:List Int)(i:Nat)(q:Value)(w:World):Prop:=match i with
 | 0=>q=.slice (some x) N c0
 | 1=>q=.int .i64 k
 | 2=>q=.int .i64 dd
 | 3=>q=.int .i64 P
 | 4=>q=.int .i64 k
 | 5=>q=.int .i64 ((k:Int)+1)
 | 6=>q=.int .i64 dd
 | 7=>q=.int .i64 Y
 | 8=>q=.slice (some (x.add P)) dd (c0-P)
 | 9=>q=.slice a1 n c1
 | 10=>q=.int .i64 k
 | 11=>q=.int .i64 dd
 | 12=>q=.int .i64 P
 | 13=>q=.int .i64 dd
 | 14=>∃ b j,q=.slice b n j∧Grid w b n (cutA A P) (fun r=>C r-P) (cutR K P dd)
 | 15=>q=.slice a2 n c2
 | 16=>q=.int .i64 k
 | 17=>q=.int .i64 dd
 | 18=>q=.int .i64 P
 | 19=>q=.int .i64 dd
 | 20=>∃ b j,q=.slice b n j∧Grid w b n (cutA A' P) (fun r=>C' r-P) (cutR V P dd)
 | 21=>∃ b j,q=.tuple #[.slice b dd j,.int .i64 0]∧Reads .i64 w b dd O∧(b=none→j=0)
 | 22=>∃ b j,q=.tuple #[.slice b dd j,.int .i64 0]∧Reads .i64 w b dd O∧(b=none→j=0)
 | 23=>∃ b j,q=.slice b dd j∧Reads .i64 w b dd O∧(b=none→j=0)
 | 24=>q=.int .i64 0
 | 25=>∃ b j,q=.slice b dd j∧Reads .i64 w b dd O∧(b=none→j=0)
 | 26=>q=.int .i64 0
 | _=>True
theorem haF_below {x:Addr}{N c0 n c1 c2 P Y dd k:Nat}{a1 a2:Option Addr}{A A':Nat→Option Addr}{C C':Nat→Nat}{K V:Nat→List Int}{O:List Int}{i:Nat}{q:Value}{w w':World}(h:haF x N c0 n c1 c2 P Y dd k a1 a2 A A' C C' K V O i q w)(hb:Below w.heap.size w w'):haF x N c0 n c1 c2 P Y dd k a1 a2 A A' C C' K V O i q w':=by
 unfold haF at h ⊢
 split
 ·exact h
 ·exact h
 ·exact h
 ·exact h
 ·exact h
 ·exact h
 ·exact h
 ·exact h
 ·exact h
 ·exact h
 ·exact h
 ·exact h
 ·exact h
 ·exact h
 ·obtain⟨b,j,h1,h2⟩:=h;exact⟨b,j,h1,h2.below hb⟩
 ·exact h
 ·exact h
 ·exact h
 ·exact h
 ·exact h
 ·obtain⟨b,j,h1,h2⟩:=h;exact⟨b,j,h1,h2.below hb⟩
 ·obtain⟨b,j,h1,h2,h3⟩:=h;exact⟨b,j,h1,h2.below hb,h3⟩
 ·obtain⟨b,j,h1,h2,h3⟩:=h;exact⟨b,j,h1,h2.below hb,h3⟩
 ·obtain⟨b,j,h1,h2,h3⟩:=h;exact⟨b,j,h1,h2.below hb,h3⟩
 ·exact h
 ·obtain⟨b,j,h1,h2,h3⟩:=h;exact⟨b,j,h1,h2.below hb,h3⟩
 ·exact h
 ·trivial
theorem ha_region {id:Nat}{ops:Array Oper}{Q:Exit→Act→World→Prop}{a0:Act}{w0:World}(x:Addr)(N c0 n c1 c2 P Y dd k:Nat)(a1 a2:Option Addr)(A A':Nat→Option Addr)(C C':Nat→Nat)(K V:Nat→List Int)(O:List Int)(S:World→Prop)(hlow:lowB ops=true)(hsz:ops.size=27)
  (o0:OpIn ops 0 (some 39) (.move (.tmp 0)) none []) (o1:OpIn ops 1 (some 40) (.move (.tmp 12)) none []) (o2:OpIn ops 2 (some 41) (.move (.tmp 10)) none []) (o3:OpIn ops 3 (some 42) (.binOp .mul 3 (.tmp 40) (.tmp 41) 3) none [1,2]) (o4:OpIn ops 4 (some 43) (.move (.tmp 12)) none []) (o5:OpIn ops 5 (some 44) (.binOp .add 3 (.tmp 43) (.const (.int .i64 1)) 3) none [4]) (o6:OpIn ops 6 (some 45) (.move (.tmp 10)) none []) (o7:OpIn ops 7 (some 46) (.binOp .mul 3 (.tmp 44) (.tmp 45) 3) none [5,6]) (o8:OpIn ops 8 (some 47) (.slice 34 (.tmp 39) (some (.tmp 42)) (some (.tmp 46)) none) none [0,3,7]) (o9:OpIn ops 9 (some 48) (.move (.tmp 1)) none []) (o10:OpIn ops 10 (some 49) (.move (.tmp 12)) none []) (o11:OpIn ops 11 (some 50) (.move (.tmp 10)) none []) (o12:OpIn ops 12 (some 51) (.binOp .mul 3 (.tmp 49) (.tmp 50) 3) none [10,11]) (o13:OpIn ops 13 (some 52) (.move (.tmp 10)) none []) (o14:OpIn ops 14 (some 53) (.call { callee:=.value (.func 109),args:=#[.tmp 48,.tmp 51,.tmp 52],argTypes:=#[31,3,3] }) none [9,12,13]) (o15:OpIn ops 15 (some 54) (.move (.tmp 2)) none []) (o16:OpIn ops 16 (some 55) (.move (.tmp 12)) none []) (o17:OpIn ops 17 (some 56) (.move (.tmp 10)) none []) (o18:OpIn ops 18 (some 57) (.binOp .mul 3 (.tmp 55) (.tmp 56) 3) none [16,17]) (o19:OpIn ops 19 (some 58) (.move (.tmp 10)) none []) (o20:OpIn ops 20 (some 59) (.call { callee:=.value (.func 109),args:=#[.tmp 54,.tmp 57,.tmp 58],argTypes:=#[31,3,3] }) none [15,18,19]) (o21:OpIn ops 21 (some 60) (.call { callee:=.value (.func 108),args:=#[.tmp 47,.tmp 53,.tmp 59],argTypes:=#[34,31,31] }) none [8,14,20]) (o22:OpIn ops 22 (some 38) (.move (.tmp 60)) none [21]) (o23:OpIn ops 23 (some 61) (.extract (.tmp 38) 0) none [22]) (o24:OpIn ops 24 (some 62) (.extract (.tmp 38) 1) none [22]) (o25:OpIn ops 25 (some 13) (.assign (.tmp 61)) none [23]) (o26:OpIn ops 26 (some 14) (.assign (.tmp 62)) none [24])
  (hS:S w0.drew)
  (x3:∀ w,(binOp .mul 3 (.int .i64 k) (.int .i64 dd)).run Tryz.prog w=.ok (.int .i64 P) w)
  (x5:∀ w,(binOp .add 3 (.int .i64 k) (.int .i64 1)).run Tryz.prog w=.ok (.int .i64 ((k:Int)+1)) w)
  (x7:∀ w,(binOp .mul 3 (.int .i64 ((k:Int)+1)) (.int .i64 dd)).run Tryz.prog w=.ok (.int .i64 Y) w)
  (x8:∀ w,(Instr.sliceAt 34 (.slice (some x) N c0) (some (.int .i64 P)) (some (.int .i64 Y)) none).run Tryz.prog w=.ok (.slice (some (x.add P)) dd (c0-P)) w)
  (x12:∀ w,(binOp .mul 3 (.int .i64 k) (.int .i64 dd)).run Tryz.prog w=.ok (.int .i64 P) w)
  (x14:∀ w,S w→Calls Tryz.prog 109 #[.slice a1 n c1,.int .i64 P,.int .i64 dd] w fun e w'=>∃ b j,e=.returned (.slice b n j)∧Grid w' b n (cutA A P) (fun r=>C r-P) (cutR K P dd)∧Below w.heap.size w w'∧S w')
  (x18:∀ w,(binOp .mul 3 (.int .i64 k) (.int .i64 dd)).run Tryz.prog w=.ok (.int .i64 P) w)
  (x20:∀ w,S w→Calls Tryz.prog 109 #[.slice a2 n c2,.int .i64 P,.int .i64 dd] w fun e w'=>∃ b j,e=.returned (.slice b n j)∧Grid w' b n (cutA A' P) (fun r=>C' r-P) (cutR V P dd)∧Below w.heap.size w w'∧S w')
  (x21:∀ w,S w→∀ b j b' j',Grid w b n (cutA A P) (fun r=>C r-P) (cutR K P dd)→Grid w b' n (cutA A' P) (fun r=>C' r-P) (cutR V P dd)→Calls Tryz.prog 108 #[.slice (some (x.add P)) dd (c0-P),.slice b n j,.slice b' n j'] w fun e w'=>∃ b j,e=.returned (.tuple #[.slice b dd j,.int .i64 0])∧Reads .i64 w' b dd O∧(b=none→j=0)∧Below w.heap.size w w'∧S w')
  (u0:a0.tmps.getD 0 undef=.slice (some x) N c0)
  (u1:a0.tmps.getD 1 undef=.slice a1 n c1)
  (u2:a0.tmps.getD 2 undef=.slice a2 n c2)
  (u10:a0.tmps.getD 10 undef=.int .i64 dd)
  (u12:a0.tmps.getD 12 undef=.int .i64 k)
  (hs:67≤a0.tmps.size)
  (fin:∀ a w,a.tmps.size=a0.tmps.size→a.defers=a0.defers→(∀ s,(∀ i,i<27→haD i≠some s)→a.tmps.getD s undef=a0.tmps.getD s undef)→S w→(∀ i d,i<27→haD i=some d→haF x N c0 n c1 c2 P Y dd k a1 a2 A A' C C' K V O i (a.tmps.getD d undef) w)→Q .normal a w):(Code.region id ops true).wp Tryz.prog Q a0 w0:=by
 have r11:∀ args w,(callFunc 108 args).run Tryz.prog w=.ok (.enter 108 args) w:=eNo Tryz.func108 (by kernel_rfl) rfl
 have r32:∀ args w,(callFunc 109 args).run Tryz.prog w=.ok (.enter 109 args) w:=eNo Tryz.func109 (by kernel_rfl) rfl
 refine wRi (by kernel_rfl) hlow (Inv 27 haD a0 (fun _ _ w=>S w) (fun _=>haF x N c0 n c1 c2 P Y dd k a1 a2 A A' C C' K V O)) (Inv.start hS) ?_ ?_
 ·intro l i o a w ho hl hcl hdep hI
  have hi:i<27:=by rw[←hsz];exact (Array.getElem?_eq_some_iff.1 ho).1
  have ev:∀ (s:Nat),a.eval (.tmp s)=a.tmps.getD s undef:=fun _=>rfl
  have evf:∀ f,a.eval (.func f)=.func (.func f) #[] #[]:=fun _=>rfl
  have evc:∀ c:Value,a.eval (.const c)=c:=fun _=>rfl
  have inj:∀ d,haD i=some d→∀ j d',j<27→haD j=some d'→j≠i→d'≠d:=fun d hd j d' hj hd' hne e=>hne (haD_inj j hj i hi (by rw[hd',hd,e]) (by rw[hd'];simp))
  have kp:∀ s,(∀ i,i<27→haD i≠some s)→a.tmps.getD s undef=a0.tmps.getD s undef:=hI.kept
  have hw:S w:=hI.world
  have go:∀ {d:Nat}{v:Value}{w':World},haD i=some d→Below w.heap.size w w'→S w'→haF x N c0 n c1 c2 P Y dd k a1 a2 A A' C C' K V O i v w'→Inv 27 haD a0 (fun _ _ w=>S w) (fun _=>haF x N c0 n c1 c2 P Y dd k a1 a2 A A' C C' K V O) (fun j=>l j || j==i) (a.put (some d) v) w':=by
   intro d v w' hD hb hS' hF
   exact hI.put hi hD (Nat.lt_of_lt_of_le (haD_lt i hi d hD) hs) (inj d hD) hS' hF (fun j u _ _ _ hf=>haF_below hf hb)
  rcases (show i=0∨i=1∨i=2∨i=3∨i=4∨i=5∨i=6∨i=7∨i=8∨i=9∨i=10∨i=11∨i=12∨i=13∨i=14∨i=15∨i=16∨i=17∨i=18∨i=19∨i=20∨i=21∨i=22∨i=23∨i=24∨i=25∨i=26 by omega) with rfl|rfl|rfl|rfl|rfl|rfl|rfl|rfl|rfl|rfl|rfl|rfl|rfl|rfl|rfl|rfl|rfl|rfl|rfl|rfl|rfl|rfl|rfl|rfl|rfl|rfl|rfl
  ·obtain⟨o',e1,e2,e3,e4,e5⟩:=o0
   obtain rfl:=sOp ho e1
   have dp:=dPo e5 hdep
   have U0:a.tmps.getD 0 undef=.slice (some x) N c0:=(kp 0 (by decide)).trans u0
   exact wVa (v:=.slice (some x) N c0) (w':=w) ho e4 (by simp[execOp,e3,ev,evc,U0]) (by rw[e2];exact go rfl (Below.refl _ _) hw rfl)
  ·obtain⟨o',e1,e2,e3,e4,e5⟩:=o1
   obtain rfl:=sOp ho e1
   have dp:=dPo e5 hdep
   have U12:a.tmps.getD 12 undef=.int .i64 k:=(kp 12 (by decide)).trans u12
   exact wVa (v:=.int .i64 k) (w':=w) ho e4 (by simp[execOp,e3,ev,evc,U12]) (by rw[e2];exact go rfl (Below.refl _ _) hw rfl)
  ·obtain⟨o',e1,e2,e3,e4,e5⟩:=o2
   obtain rfl:=sOp ho e1
   have dp:=dPo e5 hdep
   have U10:a.tmps.getD 10 undef=.int .i64 dd:=(kp 10 (by decide)).trans u10
   exact wVa (v:=.int .i64 dd) (w':=w) ho e4 (by simp[execOp,e3,ev,evc,U10]) (by rw[e2];exact go rfl (Below.refl _ _) hw rfl)
  ·obtain⟨o',e1,e2,e3,e4,e5⟩:=o3
   obtain rfl:=sOp ho e1
   have dp:=dPo e5 hdep
   have V1:a.tmps.getD 40 undef=.int .i64 k:=hI.val 1 40 (by decide) rfl (dp 1 (by decide))
   have V2:a.tmps.getD 41 undef=.int .i64 dd:=hI.val 2 41 (by decide) rfl (dp 2 (by decide))
   exact wVa (v:=.int .i64 P) (w':=w) ho e4 (by simp[execOp,e3,ev,evc,V1,V2,x3 w,eqGuard]) (by rw[e2];exact go rfl (Below.refl _ _) hw rfl)
  ·obtain⟨o',e1,e2,e3,e4,e5⟩:=o4
   obtain rfl:=sOp ho e1
   have dp:=dPo e5 hdep
   have U12:a.tmps.getD 12 undef=.int .i64 k:=(kp 12 (by decide)).trans u12
   exact wVa (v:=.int .i64 k) (w':=w) ho e4 (by simp[execOp,e3,ev,evc,U12]) (by rw[e2];exact go rfl (Below.refl _ _) hw rfl)
  ·obtain⟨o',e1,e2,e3,e4,e5⟩:=o5
   obtain rfl:=sOp ho e1
   have dp:=dPo e5 hdep
   have V4:a.tmps.getD 43 undef=.int .i64 k:=hI.val 4 43 (by decide) rfl (dp 4 (by decide))
   exact wVa (v:=.int .i64 ((k:Int)+1)) (w':=w) ho e4 (by simp[execOp,e3,ev,evc,V4,x5 w,eqGuard]) (by rw[e2];exact go rfl (Below.refl _ _) hw rfl)
  ·obtain⟨o',e1,e2,e3,e4,e5⟩:=o6
   obtain rfl:=sOp ho e1
   have dp:=dPo e5 hdep
   have U10:a.tmps.getD 10 undef=.int .i64 dd:=(kp 10 (by decide)).trans u10
   exact wVa (v:=.int .i64 dd) (w':=w) ho e4 (by simp[execOp,e3,ev,evc,U10]) (by rw[e2];exact go rfl (Below.refl _ _) hw rfl)
  ·obtain⟨o',e1,e2,e3,e4,e5⟩:=o7
   obtain rfl:=sOp ho e1
   have dp:=dPo e5 hdep
   have V5:a.tmps.getD 44 undef=.int .i64 ((k:Int)+1):=hI.val 5 44 (by decide) rfl (dp 5 (by decide))
   have V6:a.tmps.getD 45 undef=.int .i64 dd:=hI.val 6 45 (by decide) rfl (dp 6 (by decide))
   exact wVa (v:=.int .i64 Y) (w':=w) ho e4 (by simp[execOp,e3,ev,evc,V5,V6,x7 w,eqGuard]) (by rw[e2];exact go rfl (Below.refl _ _) hw rfl)
  ·obtain⟨o',e1,e2,e3,e4,e5⟩:=o8
   obtain rfl:=sOp ho e1
   have dp:=dPo e5 hdep
   have V0:a.tmps.getD 39 undef=.slice (some x) N c0:=hI.val 0 39 (by decide) rfl (dp 0 (by decide))
   have V3:a.tmps.getD 42 undef=.int .i64 P:=hI.val 3 42 (by decide) rfl (dp 3 (by decide))
   have V7:a.tmps.getD 46 undef=.int .i64 Y:=hI.val 7 46 (by decide) rfl (dp 7 (by decide))
   exact wVa (v:=.slice (some (x.add P)) dd (c0-P)) (w':=w) ho e4 (by simp[execOp,e3,ev,evc,V0,V3,V7,x8 w]) (by rw[e2];exact go rfl (Below.refl _ _) hw rfl)
  ·obtain⟨o',e1,e2,e3,e4,e5⟩:=o9
   obtain rfl:=sOp ho e1
   have dp:=dPo e5 hdep
   have U1:a.tmps.getD 1 undef=.slice a1 n c1:=(kp 1 (by decide)).trans u1
   exact wVa (v:=.slice a1 n c1) (w':=w) ho e4 (by simp[execOp,e3,ev,evc,U1]) (by rw[e2];exact go rfl (Below.refl _ _) hw rfl)
  ·obtain⟨o',e1,e2,e3,e4,e5⟩:=o10
   obtain rfl:=sOp ho e1
   have dp:=dPo e5 hdep
   have U12:a.tmps.getD 12 undef=.int .i64 k:=(kp 12 (by decide)).trans u12
   exact wVa (v:=.int .i64 k) (w':=w) ho e4 (by simp[execOp,e3,ev,evc,U12]) (by rw[e2];exact go rfl (Below.refl _ _) hw rfl)
  ·obtain⟨o',e1,e2,e3,e4,e5⟩:=o11
   obtain rfl:=sOp ho e1
   have dp:=dPo e5 hdep
   have U10:a.tmps.getD 10 undef=.int .i64 dd:=(kp 10 (by decide)).trans u10
   exact wVa (v:=.int .i64 dd) (w':=w) ho e4 (by simp[execOp,e3,ev,evc,U10]) (by rw[e2];exact go rfl (Below.refl _ _) hw rfl)
  ·obtain⟨o',e1,e2,e3,e4,e5⟩:=o12
   obtain rfl:=sOp ho e1
   have dp:=dPo e5 hdep
   have V10:a.tmps.getD 49 undef=.int .i64 k:=hI.val 10 49 (by decide) rfl (dp 10 (by decide))
   have V11:a.tmps.getD 50 undef=.int .i64 dd:=hI.val 11 50 (by decide) rfl (dp 11 (by decide))
   exact wVa (v:=.int .i64 P) (w':=w) ho e4 (by simp[execOp,e3,ev,evc,V10,V11,x12 w,eqGuard]) (by rw[e2];exact go rfl (Below.refl _ _) hw rfl)
  ·obtain⟨o',e1,e2,e3,e4,e5⟩:=o13
   obtain rfl:=sOp ho e1
   have dp:=dPo e5 hdep
   have U10:a.tmps.getD 10 undef=.int .i64 dd:=(kp 10 (by decide)).trans u10
   exact wVa (v:=.int .i64 dd) (w':=w) ho e4 (by simp[execOp,e3,ev,evc,U10]) (by rw[e2];exact go rfl (Below.refl _ _) hw rfl)
  ·obtain⟨o',e1,e2,e3,e4,e5⟩:=o14
   obtain rfl:=sOp ho e1
   have dp:=dPo e5 hdep
   have V9:a.tmps.getD 48 undef=.slice a1 n c1:=hI.val 9 48 (by decide) rfl (dp 9 (by decide))
   have V12:a.tmps.getD 51 undef=.int .i64 P:=hI.val 12 51 (by decide) rfl (dp 12 (by decide))
   have V13:a.tmps.getD 52 undef=.int .i64 dd:=hI.val 13 52 (by decide) rfl (dp 13 (by decide))
   refine wCa (f:=109) (args:=#[.slice a1 n c1,.int .i64 P,.int .i64 dd]) ho e4 (by simp[execOp,e3,resolve,invoke,Deferred.ofValue,r32,ev,evf,evc,V9,V12,V13]) ((x14 w hw).mono ?_)
   rintro e W' ⟨b,j,rfl,hr6,hb6,hs6⟩
   refine⟨_,rfl,?_⟩
   rw[e2]
   exact go rfl hb6 hs6 ⟨b,j,rfl,hr6⟩
  ·obtain⟨o',e1,e2,e3,e4,e5⟩:=o15
   obtain rfl:=sOp ho e1
   have dp:=dPo e5 hdep
   have U2:a.tmps.getD 2 undef=.slice a2 n c2:=(kp 2 (by decide)).trans u2
   exact wVa (v:=.slice a2 n c2) (w':=w) ho e4 (by simp[execOp,e3,ev,evc,U2]) (by rw[e2];exact go rfl (Below.refl _ _) hw rfl)
  ·obtain⟨o',e1,e2,e3,e4,e5⟩:=o16
   obtain rfl:=sOp ho e1
   have dp:=dPo e5 hdep
   have U12:a.tmps.getD 12 undef=.int .i64 k:=(kp 12 (by decide)).trans u12
   exact wVa (v:=.int .i64 k) (w':=w) ho e4 (by simp[execOp,e3,ev,evc,U12]) (by rw[e2];exact go rfl (Below.refl _ _) hw rfl)
  ·obtain⟨o',e1,e2,e3,e4,e5⟩:=o17
   obtain rfl:=sOp ho e1
   have dp:=dPo e5 hdep
   have U10:a.tmps.getD 10 undef=.int .i64 dd:=(kp 10 (by decide)).trans u10
   exact wVa (v:=.int .i64 dd) (w':=w) ho e4 (by simp[execOp,e3,ev,evc,U10]) (by rw[e2];exact go rfl (Below.refl _ _) hw rfl)
  ·obtain⟨o',e1,e2,e3,e4,e5⟩:=o18
   obtain rfl:=sOp ho e1
   have dp:=dPo e5 hdep
   have V16:a.tmps.getD 55 undef=.int .i64 k:=hI.val 16 55 (by decide) rfl (dp 16 (by decide))
   have V17:a.tmps.getD 56 undef=.int .i64 dd:=hI.val 17 56 (by decide) rfl (dp 17 (by decide))
   exact wVa (v:=.int .i64 P) (w':=w) ho e4 (by simp[execOp,e3,ev,evc,V16,V17,x18 w,eqGuard]) (by rw[e2];exact go rfl (Below.refl _ _) hw rfl)
  ·obtain⟨o',e1,e2,e3,e4,e5⟩:=o19
   obtain rfl:=sOp ho e1
   have dp:=dPo e5 hdep
   have U10:a.tmps.getD 10 undef=.int .i64 dd:=(kp 10 (by decide)).trans u10
   exact wVa (v:=.int .i64 dd) (w':=w) ho e4 (by simp[execOp,e3,ev,evc,U10]) (by rw[e2];exact go rfl (Below.refl _ _) hw rfl)
  ·obtain⟨o',e1,e2,e3,e4,e5⟩:=o20
   obtain rfl:=sOp ho e1
   have dp:=dPo e5 hdep
   have V15:a.tmps.getD 54 undef=.slice a2 n c2:=hI.val 15 54 (by decide) rfl (dp 15 (by decide))
   have V18:a.tmps.getD 57 undef=.int .i64 P:=hI.val 18 57 (by decide) rfl (dp 18 (by decide))
   have V19:a.tmps.getD 58 undef=.int .i64 dd:=hI.val 19 58 (by decide) rfl (dp 19 (by decide))
   refine wCa (f:=109) (args:=#[.slice a2 n c2,.int .i64 P,.int .i64 dd]) ho e4 (by simp[execOp,e3,resolve,invoke,Deferred.ofValue,r32,ev,evf,evc,V15,V18,V19]) ((x20 w hw).mono ?_)
   rintro e W' ⟨b,j,rfl,hr6,hb6,hs6⟩
   refine⟨_,rfl,?_⟩
   rw[e2]
   exact go rfl hb6 hs6 ⟨b,j,rfl,hr6⟩
  ·obtain⟨o',e1,e2,e3,e4,e5⟩:=o21
   obtain rfl:=sOp ho e1
   have dp:=dPo e5 hdep
   have V8:a.tmps.getD 47 undef=.slice (some (x.add P)) dd (c0-P):=hI.val 8 47 (by decide) rfl (dp 8 (by decide))
   obtain⟨b14,j14,V14,f14⟩:∃ b j,a.tmps.getD 53 undef=.slice b n j∧Grid w b n (cutA A P) (fun r=>C r-P) (cutR K P dd):=hI.val 14 53 (by decide) rfl (dp 14 (by decide))
   obtain⟨b20,j20,V20,f20⟩:∃ b j,a.tmps.getD 59 undef=.slice b n j∧Grid w b n (cutA A' P) (fun r=>C' r-P) (cutR V P dd):=hI.val 20 59 (by decide) rfl (dp 20 (by decide))
   refine wCa (f:=108) (args:=#[.slice (some (x.add P)) dd (c0-P),.slice b14 n j14,.slice b20 n j20]) ho e4 (by simp[execOp,e3,resolve,invoke,Deferred.ofValue,r11,ev,evf,evc,V8,V14,V20]) ((x21 w hw b14 j14 b20 j20 f14 f20).mono ?_)
   rintro e W' ⟨b,j,rfl,hr6,hz6,hb6,hs6⟩
   refine⟨_,rfl,?_⟩
   rw[e2]
   exact go rfl hb6 hs6 ⟨b,j,rfl,hr6,hz6⟩
  ·obtain⟨o',e1,e2,e3,e4,e5⟩:=o22
   obtain rfl:=sOp ho e1
   have dp:=dPo e5 hdep
   obtain⟨b21,j21,V21,f21,z21⟩:∃ b j,a.tmps.getD 60 undef=.tuple #[.slice b dd j,.int .i64 0]∧Reads .i64 w b dd O∧(b=none→j=0):=hI.val 21 60 (by decide) rfl (dp 21 (by decide))
   exact wVa (v:=.tuple #[.slice b21 dd j21,.int .i64 0]) (w':=w) ho e4 (by simp[execOp,e3,ev,evc,V21]) (by rw[e2];exact go rfl (Below.refl _ _) hw ⟨_,_,rfl,f21,z21⟩)
  ·obtain⟨o',e1,e2,e3,e4,e5⟩:=o23
   obtain rfl:=sOp ho e1
   have dp:=dPo e5 hdep
   obtain⟨b22,j22,V22,f22,z22⟩:∃ b j,a.tmps.getD 38 undef=.tuple #[.slice b dd j,.int .i64 0]∧Reads .i64 w b dd O∧(b=none→j=0):=hI.val 22 38 (by decide) rfl (dp 22 (by decide))
   exact wVa (v:=.slice b22 dd j22) (w':=w) ho e4 (by simp[execOp,e3,ev,evc,V22,Instr.extract]) (by rw[e2];exact go rfl (Below.refl _ _) hw ⟨_,_,rfl,f22,z22⟩)
  ·obtain⟨o',e1,e2,e3,e4,e5⟩:=o24
   obtain rfl:=sOp ho e1
   have dp:=dPo e5 hdep
   obtain⟨b22,j22,V22,f22,z22⟩:∃ b j,a.tmps.getD 38 undef=.tuple #[.slice b dd j,.int .i64 0]∧Reads .i64 w b dd O∧(b=none→j=0):=hI.val 22 38 (by decide) rfl (dp 22 (by decide))
   exact wVa (v:=.int .i64 0) (w':=w) ho e4 (by simp[execOp,e3,ev,evc,V22,Instr.extract]) (by rw[e2];exact go rfl (Below.refl _ _) hw rfl)
  ·obtain⟨o',e1,e2,e3,e4,e5⟩:=o25
   obtain rfl:=sOp ho e1
   have dp:=dPo e5 hdep
   obtain⟨b23,j23,V23,f23,z23⟩:∃ b j,a.tmps.getD 61 undef=.slice b dd j∧Reads .i64 w b dd O∧(b=none→j=0):=hI.val 23 61 (by decide) rfl (dp 23 (by decide))
   exact wVa (v:=.slice b23 dd j23) (w':=w) ho e4 (by simp[execOp,e3,ev,evc,V23]) (by rw[e2];exact go rfl (Below.refl _ _) hw ⟨_,_,rfl,f23,z23⟩)
  ·obtain⟨o',e1,e2,e3,e4,e5⟩:=o26
   obtain rfl:=sOp ho e1
   have dp:=dPo e5 hdep
   have V24:a.tmps.getD 62 undef=.int .i64 0:=hI.val 24 62 (by decide) rfl (dp 24 (by decide))
   exact wVa (v:=.int .i64 0) (w':=w) ho e4 (by simp[execOp,e3,ev,evc,V24]) (by rw[e2];exact go rfl (Below.refl _ _) hw rfl)
 ·intro l a w hall hI
  have all:∀ j,j<27→l j=true:=fun j hj=>hall j (by rw[hsz];exact hj)
  exact fin a w hI.size hI.defers hI.kept hI.world (fun i d hi hD=>hI.val i d hi hD (all i hi))
theorem refAll_yes (x:Addr)(N c0 H:Nat)(q:List Int)(a1:Option Addr)(n c1:Nat)(A:Nat→Option Addr)(C:Nat→Nat)(K:Nat→List Int)(a2:Option Addr)(c2:Nat)(A':Nat→Option Addr)(C':Nat→Nat)(V:Nat→List Int)(w:World)
  (h0:Reads .i64 w (some x) N q) (l0:N≤c0) (h1:Grid w a1 n A C K) (hC:∀ r,r<n→(K r).length≤C r) (h2:Grid w a2 n A' C' V) (hC':∀ r,r<n→(V r).length≤C' r) (hH:0<H) (hN:0<N) (hn:0<n) (hmod:N%H=0) (hr:∀ r,r<n→(K r).length=N∧(V r).length=N)
  (hb0:N*8≤140737488351232) (hb1:n*24≤140737488351232) :
  Calls Tryz.prog 69 #[.slice (some x) N c0,.slice a1 n c1,.slice a2 n c2,.int .i64 H] w fun e w'=>(∃ a c,e=.returned (.tuple #[.slice a N c,.int .i64 0])∧Reads .i64 w' a N (allL q K V (N/H) n H)∧N≤c)∧Below w.heap.size w w':=by
 obtain⟨i0,hi,hz0,hz1,hz2⟩:=info_parts info2
 have hm:=h0.max
 have kf:=shapes_yes (some x) N c0 a1 n c1 A C K a2 c2 A' C' V w h1 h2 hN hn hr
 obtain⟨d,ed⟩:∃ d,N/H=d:=⟨_,rfl⟩
 have ed':(N:Int)/(H:Int)=(d:Int):=by rw[←ed];simp
 have er':(N:Int)%(H:Int)=0:=by omega
 have eH:H*d=N:=by rw[←ed,Nat.mul_comm];exact Nat.div_mul_cancel (Nat.dvd_of_mod_eq_zero hmod)
 rw[ed]
 have d0:0<d:=by
  rcases Nat.eq_zero_or_pos d with r|r
  ·subst r;simp at eH;omega
  ·exact r
 have hdn9q:d≤N:=by rw[←ed];exact Nat.div_le_self _ _
 have hHN:H≤N:=by rw[←eH];exact Nat.le_mul_of_pos_right _ d0
 clear ed hmod
 have z:((H:Int)==0)=false:=by simp;omega
 go_enter Tryz.func69,Tryz.ntmps69
 go_wp2_with (first
  | (go_at_call 107;refine kf.mono ?_;rintro e w' ⟨rfl,h⟩;obtain rfl:=h.symm;clear kf))
 go_loopw [11,12] (fun v i wr=>∃ k:Nat,k≤H∧i=.int .i64 k∧Below w.heap.size w wr∧wr.ownsRow w.heap.size 2 1 v (k*d) ((allL q K V d n k).map (Value.int .i64))) (fun _ i _=>H-(intOf i).toNat)
 case atStart=>exact⟨0,Nat.zero_le _,rfl,Below.refl _ _,by simpa [allL] using World.ownsRow_nil w w.heap.size 2 1⟩
 case round =>
  obtain⟨k,hk,rfl,hbr,ho⟩:=hrel
  by_cases hlt:k<H
  ·have hq:=part_room eH hlt
   have hr0:=(h0.below hbr).cut (k*d) d hq
   have kk:=fun (W:World) (hb:Below wr.heap.size wr W)=>refCut_call a1 n c1 A C K (k*d) d W ((h1.below hbr).below hb) hC d0 (fun r h=>by rw[(hr r h).1];exact hq) hb1
   have kv:=fun (W:World) (hb:Below wr.heap.size wr W)=>refCut_call a2 n c2 A' C' V (k*d) d W ((h2.below hbr).below hb) hC' d0 (fun r h=>by rw[(hr r h).2];exact hq) hb1
   have lk:∀ r,r<n→(cutR K (k*d) d r).length=d∧(cutR V (k*d) d r).length=d:=fun r h=>⟨cutR_length _ _ _ _ (by rw[(hr r h).1];exact hq),cutR_length _ _ _ _ (by rw[(hr r h).2];exact hq)⟩
   have es:allL q K V d n (k+1)=allL q K V d n k++headZ ((q.drop (k*d)).take d) (cutR K (k*d) d) (cutR V (k*d) d) d n:=rfl
   have ek:(k+1)*d=k*d+d:=Nat.succ_mul k d
   have eki:(k:Int)*(d:Int)=((k*d:Nat):Int):=by simp
   have eki':((k:Int)+1)*(d:Int)=((k*d+d:Nat):Int):=by rw[←ek];simp
   obtain⟨qs,eq⟩:∃ qs,(q.drop (k*d)).take d=qs:=⟨_,rfl⟩
   rw[eq] at hr0 es
   obtain⟨P,eP⟩:∃ P,k*d=P:=⟨_,rfl⟩
   simp only[eP] at kk kv lk
   rw[eP] at hr0 hq ek ho es eki eki'
   obtain⟨Q,eQ⟩:∃ Q,P+d=Q:=⟨_,rfl⟩
   rw[eQ] at eki'
   have eQ2:Q-P=d:=by omega
   have hQ:Q≤c0:=by omega
   have hQN:Q≤N:=by omega
   have hP:P<Q:=by omega
   have hPc:¬c0=P:=by omega
   have kh:=fun (W:World) cq b c e f (h0:Reads .i64 W (some (x.add P)) d qs) (h1:Grid W b n (cutA A P) (fun r=>C r-P) (cutR K P d)) (h2:Grid W e n (cutA A' P) (fun r=>C' r-P) (cutR V P d))=>refHead_yes (some (x.add P)) d cq qs b n c (cutA A P) (fun r=>C r-P) (cutR K P d) e f (cutA A' P) (fun r=>C' r-P) (cutR V P d) W h0 h1 h2 d0 hn lk (by omega) (by omega)
   have Es:Hid (allL q K V d n (k+1)=allL q K V d n k++headZ qs (cutR K P d) (cutR V P d) d n):=es
   have Ek:Hid ((k+1)*d=P+d):=ek
   obtain⟨O,eO⟩:∃ O,headZ qs (cutR K P d) (cutR V P d) d n=O:=⟨_,rfl⟩
   rw[eO] at Es
   simp only[eO] at kh
   have hPN:P<N:=by omega
   clear eq eP es ek eH eO lk hC hC' hr h0 h1 h2 eQ
   go_wp2
   refine ha_region x N c0 n c1 c2 P Q d k a1 a2 A A' C C' K V O (fun W=>Below wr.heap.size wr W) (by kernel_rfl) rfl ⟨_,rfl,rfl,rfl,rfl,by kernel_rfl⟩ ⟨_,rfl,rfl,rfl,rfl,by kernel_rfl⟩ ⟨_,rfl,rfl,rfl,rfl,by kernel_rfl⟩ ⟨_,rfl,rfl,rfl,rfl,by kernel_rfl⟩ ⟨_,rfl,rfl,rfl,rfl,by kernel_rfl⟩ ⟨_,rfl,rfl,rfl,rfl,by kernel_rfl⟩ ⟨_,rfl,rfl,rfl,rfl,by kernel_rfl⟩ ⟨_,rfl,rfl,rfl,rfl,by kernel_rfl⟩ ⟨_,rfl,rfl,rfl,rfl,by kernel_rfl⟩ ⟨_,rfl,rfl,rfl,rfl,by kernel_rfl⟩ ⟨_,rfl,rfl,rfl,rfl,by kernel_rfl⟩ ⟨_,rfl,rfl,rfl,rfl,by kernel_rfl⟩ ⟨_,rfl,rfl,rfl,rfl,by kernel_rfl⟩ ⟨_,rfl,rfl,rfl,rfl,by kernel_rfl⟩ ⟨_,rfl,rfl,rfl,rfl,by kernel_rfl⟩ ⟨_,rfl,rfl,rfl,rfl,by kernel_rfl⟩ ⟨_,rfl,rfl,rfl,rfl,by kernel_rfl⟩ ⟨_,rfl,rfl,rfl,rfl,by kernel_rfl⟩ ⟨_,rfl,rfl,rfl,rfl,by kernel_rfl⟩ ⟨_,rfl,rfl,rfl,rfl,by kernel_rfl⟩ ⟨_,rfl,rfl,rfl,rfl,by kernel_rfl⟩ ⟨_,rfl,rfl,rfl,rfl,by kernel_rfl⟩ ⟨_,rfl,rfl,rfl,rfl,by kernel_rfl⟩ ⟨_,rfl,rfl,rfl,rfl,by kernel_rfl⟩ ⟨_,rfl,rfl,rfl,rfl,by kernel_rfl⟩ ⟨_,rfl,rfl,rfl,rfl,by kernel_rfl⟩ ⟨_,rfl,rfl,rfl,rfl,by kernel_rfl⟩ (Below.refl _ _).drew (run_mul3 _ _ _ eki (by omega) (by omega)) (run_add3 _ _ (by omega) (by omega)) (run_mul3 _ _ _ eki' (by omega) (by omega)) (run_cut22 x N c0 P Q d hP hQ eQ2) (run_mul3 _ _ _ eki (by omega) (by omega)) (fun W hb=>(kk W hb).mono fun e w' ⟨⟨b,j,h1,h2⟩,h3⟩=>⟨b,j,h1,h2,h3,bTn hb h3⟩) (run_mul3 _ _ _ eki (by omega) (by omega)) (fun W hb=>(kv W hb).mono fun e w' ⟨⟨b,j,h1,h2⟩,h3⟩=>⟨b,j,h1,h2,h3,bTn hb h3⟩) (fun W hb b j b' j' g1 g2=>(kh W _ b j b' j' (hr0.below hb) g1 g2).mono fun e w' ⟨⟨b,j,h1,h2,h3⟩,h4⟩=>⟨b,j,h1,h2,h3,h4,bTn hb h4⟩) rfl rfl rfl rfl rfl (Nat.le_of_ble_eq_true rfl) ?_
   intro a W9 hs hd hkp hS9 hval
   have e14:a.tmps.getD 14 undef=.int .i64 0:=hval 26 14 (by decide) rfl
   obtain⟨b9,j9,e13,f13,z13⟩:=hval 25 13 (by decide) rfl
   have ep:=fPu [39,40,41,42,43,44,45,46,47,48,49,50,51,52,53,54,55,56,57,58,59,60,38,61,62,13,14] hs hd (fun s h=>hkp s (fun i hi e=>h (by
    rcases (show i=0∨i=1∨i=2∨i=3∨i=4∨i=5∨i=6∨i=7∨i=8∨i=9∨i=10∨i=11∨i=12∨i=13∨i=14∨i=15∨i=16∨i=17∨i=18∨i=19∨i=20∨i=21∨i=22∨i=23∨i=24∨i=25∨i=26 by omega) with rfl|rfl|rfl|rfl|rfl|rfl|rfl|rfl|rfl|rfl|rfl|rfl|rfl|rfl|rfl|rfl|rfl|rfl|rfl|rfl|rfl|rfl|rfl|rfl|rfl|rfl|rfl<;>(simp only[haD,Option.some.injEq] at e;subst e;simp))))
   simp only[List.foldl] at ep
   rw[e14] at ep
   rw[e13] at ep
   have H9:=hdn hS9
   clear hs hd hkp hval hS9 e14 e13
   generalize a.tmps.getD 39 undef=g39,a.tmps.getD 40 undef=g40,a.tmps.getD 41 undef=g41,a.tmps.getD 42 undef=g42,a.tmps.getD 43 undef=g43,a.tmps.getD 44 undef=g44,a.tmps.getD 45 undef=g45,a.tmps.getD 46 undef=g46,a.tmps.getD 47 undef=g47,a.tmps.getD 48 undef=g48,a.tmps.getD 49 undef=g49,a.tmps.getD 50 undef=g50,a.tmps.getD 51 undef=g51,a.tmps.getD 52 undef=g52,a.tmps.getD 53 undef=g53,a.tmps.getD 54 undef=g54,a.tmps.getD 55 undef=g55,a.tmps.getD 56 undef=g56,a.tmps.getD 57 undef=g57,a.tmps.getD 58 undef=g58,a.tmps.getD 59 undef=g59,a.tmps.getD 60 undef=g60,a.tmps.getD 38 undef=g38,a.tmps.getD 61 undef=g61,a.tmps.getD 62 undef=g62 at ep
   simp only[Act.put,List.setIfInBounds_toArray,List.set_cons_succ,List.set_cons_zero] at ep
   subst ep
   have cur:Below wr.heap.size wr W9:=H9.out
   have ho9:=oBe ho cur
   have hb9:=bTn hbr cur
   have hsz:=hb9.size
   clear H9 cur kk kv kh ho hbr hr0
   go_wp2_with (at_builtin;refine wpList_copy rfl (.tmp 63) (.tmp 64) 34 rfl w.heap.size 2 i0 (.int .i64 0) 8 Tryz.underlying34 hi hz0 hz1 hz2 rfl _ P _ rfl ho9 .i64 b9 d j9 _ rfl f13 z13 (by unfold maxLen;omega) (by omega) hsz ?_;intro v1 W5 ho3 hg3;have R:=And.intro (below_append hb9 ho9 hg3) ho3;clear ho3 hg3 ho9)
   go_roundw
   case rel=>exact⟨k+1,by omega,by go_num,R.1,by rw[Ek.out,Es.out,List.map_append];exact R.2⟩
   case measure=>simp[intOf];omega
  ·have e:k=H:=by omega
   subst e
   rw[eH] at ho
   have fin:=oRe (zs:=allL q K V d n k) ho (by rw[allL_length,eH]) (wf_allL _ _ _ _ _ _) (fun j hj=>copy_at _ _ _ (by rw[allL_length,eH];exact hj))
   obtain⟨a,c,rfl,hr⟩:=fin
   have hn:=own_cap ho
   clear ho
   go_wp2
   go_ret2
   exact⟨⟨_,_,rfl,hr,hn⟩,hbr⟩
end Go.Proofs.YthliomlmhfjhnaaGreat

/- Texts put together. -/
import Derived.Test.YthliomlmhfjhnaaGreatZp15
import Derived.Test.YthliomlmhfjhnaaGreatZp17
import Derived.Test.YthliomlmhfjhnaaGreatZp18
import Derived.Test.YthliomlmhfjhnaaGreatZp13
import Derived.Test.YthliomlmhfjhnaaGreatZp20
namespace Go.Proofs.YthliomlmhfjhnaaGreat
set_option maxRecDepth 20000
set_option maxHeartbeats 16000000
open Go.ChangeShapes Go.WideShapes Go.ChangeAt Go.RowKit
set_option linter.unusedVariables false
set_option linter.unusedSimpArgs false
theorem QgC (a0:Option Addr)(n0 c0:Nat)(ro:List Int)(E k:Int)(a3:Option Addr)(n3 c3:Nat)(xs:List Int)(w:World)(h0:Reads .i8 w a0 n0 ro)(l0:n0≤c0)(h3:Reads .i64 w a3 n3 xs)(wE:(Lit.int .i64 E).wf=true)(wk:(Lit.int .i64 k).wf=true)(b0:n0*8≤140737488355328)(hf:Qbh ro E k xs=true) :
  Calls Tryz.prog 111 #[.slice a0 n0 c0,I4 E,I4 k,.slice a3 n3 c3] w fun e w'=>(∃ ap cp aq cq,e=.returned (.tuple #[.slice ap k.toNat cp,.slice aq k.toNat cq,I4 0])∧Reads .i64 w' ap k.toNat (QeB ro k xs)∧Reads .i64 w' aq k.toNat (QcE ro k xs))∧Bw w w':=by
 obtain⟨i0,hi,hz0,hz1,hz2⟩:=info_parts QaT
 have hb':(decide (1≤k) && decide (k≤E) && fitB ro.length E xs.length)=true:=hf
 simp only[Bool.and_eq_true,decide_eq_true_eq] at hb'
 obtain⟨⟨hk1,hk2⟩,f1⟩:=hb'
 have hlt:=fun j (h:j<k.toNat)=>QgT hf h
 have hat:=fun j (h:j<k.toNat)=>Qc5 hf h
 rw[h0.len,h3.len] at f1
 have eE:=(Qbn f1).2.2
 have hle:=Nat.div_le_self n0 n3
 have hm3:=h3.max
 obtain⟨R,eR⟩:∃ R,n0/n3=R:=⟨_,rfl⟩
 have em:(matL ro xs).length=R:=by rw[Qa7,h0.len,h3.len,eR]
 obtain⟨K,eK⟩:∃ K,k.toNat=K:=⟨_,rfl⟩
 obtain rfl:k=(K:Int):=by omega
 have eKR:min (K:Int).toNat R=K:=by omega
 have KR:K≤R:=by omega
 have ekn:(K:Int).toNat=K:=rfl
 have ku:=QbU a0 n0 c0 ro E a3 n3 c3 xs w h0 l0 h3 f1 b0
 rw[eR] at ku hle eE
 have kt:=fun (W:World) p q (h:Reads .i64 W p R (matL ro xs))=>QhS p R q (matL ro xs) (K:Int) W h (by omega)
 have hat':∀ j,j<K→(Qcf (matL ro xs) (K:Int)).getD j 0=((plc ro xs j:Nat):Int):=fun j h=>hat j (by omega)
 have hlt':∀ j,j<K→plc ro xs j<R:=fun j h=>by have:=hlt j (by omega);omega
 show Calls _ _ _ _ (fun e w'=>(∃ ap cp aq cq,e=.returned (.tuple #[.slice ap (K:Int).toNat cp,.slice aq (K:Int).toNat cq,I4 0])∧Reads .i64 w' ap (K:Int).toNat (Qcf (matL ro xs) (K:Int))∧Reads .i64 w' aq (K:Int).toNat (QbE (QbA ro (K:Int).toNat xs) (K:Int).toNat))∧Bw w w')
 rw[eKR] at kt
 rw[ekn]
 have Em:=hdn (And.intro em eKR)
 have hn1:¬(K:Int)<1:=by omega
 have hn2:¬E<(K:Int):=by omega
 clear hat hlt hf f1 eR eK em eKR eE ekn
 go_enter Tryz.func111,Tryz.ntmps111
 go_wp2_with (first
  | (go_at_call 51;refine ku.mono ?_;rintro e w1 ⟨⟨a1,c1,rfl,hr1,-⟩,hb1⟩)
  | (go_at_call 130;refine (kt w1 _ _ hr1).mono ?_;rintro e w2 ⟨⟨ap,cp,rfl,hr2,-,-⟩,hb2⟩;replace hr1:=hr1.below hb2;have hbw:=bTn hb1 hb2;clear hb1 hb2))
 clear ku kt
 go_loopw [14,15] (fun v i wr=>∃ j:Nat,j≤K∧i=I4 j∧Bw w2 wr∧wr.ownsRow w2.heap.size 2 1 v j (gath (fun i=>(matL ro xs).getD (plc ro xs i) 0) .i64 j)) (fun _ i _=>K-(intOf i).toNat)
 case atStart=>exact⟨0,Nat.zero_le _,rfl,Below.refl _ _,World.ownsRow_nil _ _ _ _⟩
 case round =>
  obtain⟨j,hj,rfl,hbr,ho⟩:=hrel
  by_cases hlt:j<K
  ·obtain⟨x,rfl⟩:=hr2.some_ (by omega)
   obtain⟨y,rfl⟩:=hr1.some_ (by omega)
   have cx:=(hr2.below hbr).cell x rfl j hlt
   rw[hat' j hlt] at cx
   have pj:=hlt' j hlt
   have cy:=(hr1.below hbr).cell y rfl (plc ro xs j) pj
   have hsz:=hbr.size
   obtain⟨p,ep⟩:∃ p,plc ro xs j=p:=⟨_,rfl⟩
   obtain⟨Z,eZ⟩:∃ Z,(matL ro xs).getD (plc ro xs j) 0=Z:=⟨_,rfl⟩
   have Ev:Hid (Z=(matL ro xs).getD (plc ro xs j) 0):=eZ.symm
   rw[eZ] at cy
   rw[ep] at cx cy pj
   clear eZ ep hr1 hr2 hat' hlt'
   go_wp2_with (at_builtin;refine wpList_append_own _ rfl (.tmp 42) (.tmp 50) 34 rfl w2.heap.size 2 i0 (I4 0) 1 8 Tryz.underlying34 hi hz0 hz1 hz2 rfl (by decide) _ _ _ rfl (World.ownsRow.alloc (w:=wr) ho _) ⟨_,0,none⟩ 1 1 [I4 Z] rfl rfl (Qai _ _ _) (oOc _ _) (by unfold maxLen;omega) (by omega) (by simp;omega) ?_;intro v' w1' ho' hg _)
   go_roundw
   case rel=>exact⟨j+1,by omega,by go_num,aSt (wr:=wr) hsz Ev.out hbr ho ho' hg⟩
   case measure=>simp[intOf];omega
  ·have e:j=K:=by omega
   subst e
   have fin:=oRe (zs:=QbA ro j xs) ho (by simp[QbA]) (fun z hz=>by
    obtain⟨y,_,rfl⟩:=List.mem_map.1 hz
    have:=Qb7 ro xs (plc ro xs y)
    exact WalkArith.wf_i64 ⟨by omega,by omega⟩) (fun i hi=>by rw[QaP _ _ _ _ hi];simp[QbA,List.getD,hi])
   obtain⟨a3',c3',rfl,hr3⟩:=fin
   have ks:=QdN a3' j c3' (QbA ro j xs) wr hr3 (by omega)
   replace hr2:=hr2.below hbr
   have hbw':=bTn hbw hbr
   clear ho hr3
   go_wp2_with (go_at_call 128;refine ks.mono ?_;rintro e w4 ⟨⟨aq,cc,rfl,hr4⟩,hb4⟩)
   refine bodyPost_ret (by simp[results,Tryz.results111];rfl) rfl ?_
   exact⟨⟨_,_,_,_,rfl,hr2.below hb4,hr4⟩,bTn hbw' hb4⟩
theorem Qjy (n j:Nat)(hj:j<n):((madeCells (Value.int .i64 0).cells (n*1)).toList)[j]? = some (I4 0):=by
 rw[Nat.mul_one]
 simp[madeCells,Value.cells,hj,Nat.mod_one]
theorem Qho {z:Int}(h0:-9223372036854775808≤z)(h1:z≤9223372036854775807):IntKind.i64.wrap z=z:=by
 simp[IntKind.wrap,IntKind.signed,IntKind.bits]
 omega
theorem QlZ (x y z:Int)(e:x*y=z)(h0:-9223372036854775808≤z)(h1:z≤9223372036854775807)(w:World):(binOp .mul 2 (I4 x) (I4 y)).run Tryz.prog w=.ok (I4 z) w:=by
 have:=Qho h0 h1
 go_simp
theorem own_drew {w:World}{B:Nat}{e:TypeId}{v:Value}{n:Nat}{xs:List Value}(h:w.ownsRow B e 1 v n xs):w.drew.ownsRow B e 1 v n xs:=oBe h bR.drew
theorem Qjj (a0:Option Addr)(n0 c0:Nat)(ro:List Int)(a1:Option Addr)(n c1:Nat)(A1:Nat→Option Addr)(C1:Nat→Nat)(U:Nat→List Int)(a2:Option Addr)(m c2:Nat)(A2:Nat→Option Addr)(C2:Nat→Nat)(D:Nat→List Int)(h k:Int)(a5:Option Addr)(n5 c5:Nat)(xs:List Int)(w:World)(h0:Reads .i8 w a0 n0 ro)(l0:n0≤c0)(g1:Nets w a1 n A1 C1 U)(g2:Nets w a2 m A2 C2 D)(h5:Reads .i64 w a5 n5 xs)(wh:(Lit.int .i64 h).wf=true)(wk:(Lit.int .i64 k).wf=true)(b0:n0*8≤140737488355328)(b1:n*24≤140737488351232)(b5:n5*8≤140737488355328)(hn:1<n)(hm:n=m)(hf:Qbh ro n k xs=true)(hr:QhR ro U D h k.toNat xs=true) :
  Calls Tryz.prog 71 #[.slice a0 n0 c0,.slice a1 n c1,.slice a2 m c2,I4 h,I4 k,.slice a5 n5 c5] w fun e w'=>(∃ a c,e=.returned (.tuple #[.slice a n5 c,I4 0])∧Reads .i64 w' a n5 (sumL ro U D k xs))∧Bw w w':=by
 have hall:=fun j (hj:j<k.toNat)=>Qgw hr hj
 clear hr
 subst hm
 have hm1:=g1.grid.max
 have p1:((n:Int)==0)=false:=by simp;omega
 have p2:((n:Int)==1)=false:=by simp;omega
 have hlt0:=fun j (h:j<k.toNat)=>QgT hf h
 have hat0:=fun j (h:j<k.toNat)=>Qc5 hf h
 have kr:=QgC a0 n0 c0 ro n k a5 n5 c5 xs w h0 l0 h5 (WalkArith.wf_i64 ⟨by omega,by omega⟩) wk b0 hf
 have hb':(decide (1≤k) && decide (k≤n) && fitB ro.length n xs.length)=true:=hf
 simp only[Bool.and_eq_true,decide_eq_true_eq] at hb'
 obtain⟨⟨hk1,hk2⟩,-⟩:=hb'
 obtain⟨K,eK⟩:∃ K,k.toNat=K:=⟨_,rfl⟩
 obtain rfl:k=(K:Int):=by omega
 have Kn:K≤n:=by omega
 have hlt':∀ j,j<K→plc ro xs j<n:=fun j h=>by have:=hlt0 j (by omega);omega
 have hat:∀ j,j<K→(QeB ro (K:Int) xs).getD j 0=((plc ro xs j:Nat):Int):=fun j h=>hat0 j (by omega)
 have hsb:=fun j=>Qc4 ro (K:Int) xs j
 clear hlt0 hat0 hf
 obtain⟨i0,hi,hz0,hz1,hz2⟩:=info_parts QaT
 obtain⟨x,rfl⟩:=g1.grid.some_ (by omega)
 obtain⟨y,rfl⟩:=g2.grid.some_ (by omega)
 obtain⟨SP,eSP⟩:∃ SP,QeB ro (K:Int) xs=SP:=⟨_,rfl⟩
 obtain⟨SS,eSS⟩:∃ SS,QcE ro (K:Int) xs=SS:=⟨_,rfl⟩
 rw[eK,eSP,eSS] at kr
 rw[eSP] at hat
 rw[eSS] at hsb
 have ESS:Hid (QcE ro (K:Int) xs=SS):=eSS
 have hall':∀ j,j<K→oneB (U (plc ro xs j)) (D (plc ro xs j)) h xs=true:=fun j hj=>hall j (by omega)
 have hsl:=Qen ro U D (K:Int) xs
 have hsa:=fun i=>Qkj ro U D (K:Int) xs i
 rw[h5.len] at hsl hsa
 clear eK eSP eSS hall
 go_enter Tryz.func71,Tryz.ntmps71
 go_wp2_with (first
  | (go_at_call 111;refine kr.mono ?_;rintro e w1 ⟨⟨ap,cp,aq,cq,rfl,hrp,hrs⟩,hb1⟩)
  | (at_make;refine wpList_make_full _ rfl (.tmp 61) (.tmp 61) 34 rfl w1.heap.size 2 i0 (I4 0) 1 Tryz.underlying34 hi hz0 hz1 .i64 .i64 _ _ n5 rfl rfl rfl rfl (by rw[hz2];omega) (by unfold maxLen;omega) nL ?_;intro w2 hown hgrow))
 have hb2:Bw w1 w2:=bR.grown hgrow nL (fun k h=>by cases h)
 obtain⟨tp,rfl⟩:=hrp.some_ (by omega)
 obtain⟨tq,rfl⟩:=hrs.some_ (by omega)
 clear kr
 go_wp2
 go_loopw [18] (fun i wr=>∃ j:Nat,j≤K∧i=I4 j∧Bw w1 wr∧∃ cs,wr.ownsRow w1.heap.size 2 1 (.slice (some ⟨w1.heap.size,0,none⟩) n5 n5) n5 cs∧∀ i,i<n5→cs[i]? = some (I4 (Qay (fun j=>SS.getD j 0) (QaR ro U D xs) i j))) (fun i _=>K-(intOf i).toNat)
 case atStart=>exact⟨0,Nat.zero_le _,rfl,hb2,_,hown,fun j hj=>Qjy n5 j hj⟩
 case round =>
  clear hown hgrow hb2
  obtain⟨j,hj,rfl,hbr,cs,ho,hcs⟩:=hrel
  by_cases hltK:j<K
  ·have HF:=hall' j hltK
   have pj:=hlt' j hltK
   have cp':=fun (W:World) (hb:Bw wr W)=>((hrp.below hbr).below hb).cell tp rfl j hltK
   simp only[hat j hltK] at cp'
   have bw:=bTn hb1 hbr
   have cx:=fun (W:World) (hb:Bw wr W)=>(g1.grid.below (bTn bw hb)).cell x rfl (plc ro xs j) pj
   have cy:=fun (W:World) (hb:Bw wr W)=>(g2.grid.below (bTn bw hb)).cell y rfl (plc ro xs j) pj
   have ko:=fun (W:World) (hb:Bw wr W)=>Qfn (A1 (plc ro xs j)) (U (plc ro xs j)).length (C1 (plc ro xs j)) (U (plc ro xs j)) (A2 (plc ro xs j)) (D (plc ro xs j)).length (C2 (plc ro xs j)) (D (plc ro xs j)) h a5 n5 c5 xs W ((g1.grid.row _ pj).below (bTn bw hb)) (g1.cap _ pj) ((g2.grid.row _ pj).below (bTn bw hb)) (g2.cap _ pj) (h5.below (bTn bw hb)) wh (g1.bnd _ pj) (g2.bnd _ pj) HF
   have hlen:=oLe ho
   have hsz:=hbr.size
   have hw1:w1.heap.size<wr.heap.size:=(ho.lt _ rfl).2
   obtain⟨O,eO⟩:∃ O,oneL (U (plc ro xs j)) (D (plc ro xs j)) xs=O:=⟨_,rfl⟩
   have EO:Hid (QaR ro U D xs j=O):=eO
   have ob:∀ i,-2147483648≤O.getD i 0∧O.getD i 0≤2147483647:=fun i=>by rw[←eO];exact Qb7 _ _ _
   have ol:O.length=n5:=by rw[←eO,Qb5 HF,h5.len]
   rw[eO] at ko
   obtain⟨p,ep⟩:∃ p,plc ro xs j=p:=⟨_,rfl⟩
   rw[ep] at pj cp' cx cy ko
   clear eO ep HF
   go_wp2
   refine QkH x y n c1 c2 (U p).length (C1 p) (D p).length (C2 p) n5 c5 (A1 p) (A2 p) a5 h tp K cp j p w1.heap.size O 0 (fun W=>Bw wr W) (by kernel_rfl) rfl (by (repeat' apply And.intro)<;>exact⟨_,rfl,rfl,rfl,rfl,by kernel_rfl⟩) bR.drew (Qbt _ _ _ _ hltK) (fun W hb=>Qam (cp' W hb)) (Qb1 _ _ _ _ pj) (fun W hb=>Qag (cx W hb)) (Qbt _ _ _ _ hltK) (fun W hb=>Qam (cp' W hb)) (Qb1 _ _ _ _ pj) (fun W hb=>Qag (cy W hb)) (fun W hb=>(ko W hb).mono fun e w' ⟨⟨b,bc,q1,q2,q3⟩,q5⟩=>⟨b,n5,bc,q1,q2,(fun z hz q=>by have:=q3 z hz;have:=hb.size;omega),q5,bTn hb q5⟩) rfl rfl rfl rfl rfl rfl (Nat.le_of_ble_eq_true rfl) ?_
   intro a W9 hs hd hkp hS9 hval
   have e20:a.tmps.getD 20 undef=I4 0:=hval 21 20 (by decide) rfl
   obtain⟨b9,n9,c9,e19,f19,z19⟩:=hval 20 19 (by decide) rfl
   obtain⟨f,ef,ep⟩:=fPz [70,71,72,73,74,75,76,77,78,79,80,81,82,83,84,85,86,69,87,88,19,20] rfl hs hd hkp
   simp only[ef] at e20 e19
   simp only[List.foldl,e20,e19,Act.put,List.setIfInBounds_toArray,List.set_cons_succ,List.set_cons_zero] at ep
   have H9:=hdn hS9
   clear hs hd hkp hval hS9 e20 e19 ef
   subst ep
   obtain rfl:n9=n5:=f19.len.symm.trans ol
   have hS:Bw wr W9:=H9.out
   have ho9:=oBe ho hS
   have hb9:=bTn hbr hS
   clear H9 hS ho hbr ko cx cy cp' bw
   rename_i wr0 _
   go_wp2
   go_loopw [21] (fun i wr=>∃ q:Nat,q≤n9∧i=I4 q∧Bw w1 wr∧Reads .i64 wr b9 n9 O∧∃ ds,wr.ownsRow w1.heap.size 2 1 (.slice (some ⟨w1.heap.size,0,none⟩) n9 n9) n9 ds∧∀ i,i<n9→ds[i]? = some (I4 (Qay (fun j=>SS.getD j 0) (QaR ro U D xs) i (if i<q then j+1 else j)))) (fun i _=>n9-(intOf i).toNat)
   case atStart=>exact⟨0,Nat.zero_le _,rfl,hb9,f19,_,ho9,fun i hi'=>by rw[if_neg (by omega)];exact hcs i hi'⟩
   case round =>
    clear ho9 hb9 f19 hcs
    obtain⟨q,hq,rfl,hbq,hrO,ds,hoq,hds⟩:=hrel
    by_cases hltq:q<n9
    ·obtain⟨b9',rfl⟩:=hrO.some_ (by omega)
     have hlenq:=oLe hoq
     have hdq:=hds q hltq
     rw[if_neg (Nat.lt_irrefl q)] at hdq
     have cB:wr.drew.cell? ⟨w1.heap.size,q,none⟩=some (I4 (Qay (fun j=>SS.getD j 0) (QaR ro U D xs) q j)):=(hoq.cellAt q (by omega)).trans hdq
     have froz:wr.drew.frozen? ⟨w1.heap.size,q,none⟩=false:=hoq.frozenAt q
     have cS:wr.drew.cell? (tq.add j)=some (I4 (SS.getD j 0)):=(hrs.below hbq).cell tq rfl j hltK
     have cY:wr.drew.cell? (b9'.add q)=some (I4 (O.getD q 0)):=hrO.cell b9' rfl q hltq
     have pb:=QbI _ _ (hsb j) (ob q)
     have wS:=Qcr (fun j=>SS.getD j 0) (QaR ro U D xs) q j
     have es:Qay (fun j=>SS.getD j 0) (QaR ro U D xs) q (j+1)=addZ (Qay (fun j=>SS.getD j 0) (QaR ro U D xs) q j) (SS.getD j 0*O.getD q 0):=by rw[←EO.out];rfl
     obtain⟨X0,e0⟩:∃ X0,Qay (fun j=>SS.getD j 0) (QaR ro U D xs) q j=X0:=⟨_,rfl⟩
     obtain⟨X1,e1⟩:∃ X1,SS.getD j 0=X1:=⟨_,rfl⟩
     obtain⟨X2,e2⟩:∃ X2,O.getD q 0=X2:=⟨_,rfl⟩
     rw[e0] at cB wS
     rw[e1] at cS pb
     rw[e2] at cY pb
     rw[e0,e1,e2] at es
     obtain⟨X3,e3⟩:∃ X3,X1*X2=X3:=⟨_,rfl⟩
     rw[e3] at pb es
     have p30:-9223372036854775808≤X3:=by omega
     have p31:X3≤9223372036854775807:=by omega
     have ka:=fun W=>Qbu X0 X3 wS (WalkArith.wf_i64 ⟨p30,p31⟩) W
     obtain⟨X4,e4⟩:∃ X4,addZ X0 X3=X4:=⟨_,rfl⟩
     rw[e4] at ka es
     have Rb:Bw w1 (wr.drew.setCell ⟨w1.heap.size,q,none⟩ (I4 X4)):=(hbq.drew).setCell nL _
     have Ro:Reads .i64 (wr.drew.setCell ⟨w1.heap.size,q,none⟩ (I4 X4)) (some b9') n9 O:=(hrO.drewN 1).setOff (fun e=>z19 b9' rfl e.symm) _
     have R':=hdn (And.intro Rb (And.intro Ro (And.intro (show (wr.drew.setCell ⟨w1.heap.size,q,none⟩ (I4 X4)).ownsRow w1.heap.size 2 1 (.slice (some ⟨w1.heap.size,0,none⟩) n9 n9) n9 (ds.set q (I4 X4)) from ((own_drew hoq).stored q _).1) (show ∀ i,i<n9→(ds.set q (Value.int .i64 X4))[i]? = some (I4 (Qay (fun j=>SS.getD j 0) (QaR ro U D xs) i (if i<q+1 then j+1 else j))) from by
      intro i hi'
      by_cases e:i=q
      ·subst e
       rw[if_pos (by omega),es]
       simp[hlenq,hltq]
      ·rw[List.getElem?_set_ne (by omega),hds i hi']
       by_cases hiq:i<q
       ·rw[if_pos hiq,if_pos (by omega)]
       ·rw[if_neg hiq,if_neg (by omega)]))))
     clear es e0 e1 e2 e4 wS pb hdq hds hoq hrO hbq hlenq Rb Ro
     go_wp2
     refine QkF tq b9' w1.heap.size K n9 cq c9 j q X0 X1 X2 X3 X4 (fun W=>W=wr.drew) (by kernel_rfl) rfl (by (repeat' apply And.intro)<;>exact⟨_,rfl,rfl,rfl,rfl,by kernel_rfl⟩) rfl (QdM _ _ _ _ hltq) (fun W hW=>by rw[hW];exact Qeu cB) (Qev _ _ _ _ hltK) (fun W hW=>by rw[hW];exact Qeu cS) (Qev _ _ _ _ hltq) (fun W hW=>by rw[hW];exact Qeu cY) (QlZ _ _ _ e3 p30 p31) (fun W _=>ka W) (QdM _ _ _ _ hltq) rfl rfl rfl rfl rfl (Nat.le_of_ble_eq_true rfl) ?_
     intro a W9 hs hd hkp hS9 hval
     have e113:a.tmps.getD 113 undef=I4 X4:=hval 15 113 (by decide) rfl
     have e114:a.tmps.getD 114 undef=.pointer (some ⟨w1.heap.size,q,none⟩):=hval 16 114 (by decide) rfl
     have hW9:W9=wr.drew:=hS9
     subst hW9
     rw[e113,e114]
     refine⟨_,Qi8 cB froz,?_⟩
     obtain⟨f,ef,ep⟩:=fPz [98,99,100,101,102,103,104,105,106,107,108,109,110,111,112,113,114] rfl hs hd hkp
     simp only[ef] at e113 e114
     simp only[List.foldl,e113,e114,Act.put,List.setIfInBounds_toArray,List.set_cons_succ,List.set_cons_zero] at ep
     clear hs hd hkp hval hS9 e113 e114 ef
     subst ep
     go_wp2
     go_roundw
     case rel=>exact⟨q+1,by omega,by go_num,R'.out.1,R'.out.2.1,_,R'.out.2.2.1,R'.out.2.2.2⟩
     case measure=>simp[intOf];omega
    ·have e:q=n9:=by omega
     subst e
     have R':=hdn (And.intro hbq (And.intro hoq (show ∀ i,i<q→ds[i]? = some (I4 (Qay (fun j=>SS.getD j 0) (QaR ro U D xs) i (j+1))) from fun i hi'=>by rw[hds i hi',if_pos hi'])))
     clear hds hoq hbq hrO
     go_wp2
     go_roundw
     case rel=>exact⟨j+1,by omega,by go_num,R'.out.1,_,R'.out.2.1,R'.out.2.2⟩
     case measure=>simp[intOf];omega
  ·have e:j=K:=by omega
   subst e
   rename World=>W2
   have bw:=bTn hb1 hbr
   clear hrp hat hlt' hall' g1 g2 hrs
   go_wp2
   go_loopw [22] (fun i wr=>∃ q:Nat,q≤n5∧i=I4 q∧Bw w1 wr∧∃ ds,wr.ownsRow w1.heap.size 2 1 (.slice (some ⟨w1.heap.size,0,none⟩) n5 n5) n5 ds∧(∀ i,i<q→ds[i]? = some (I4 (Qcd (fun j=>SS.getD j 0) (QaR ro U D xs) j i)))∧∀ i,q≤i→i<n5→ds[i]? = some (I4 (Qay (fun j=>SS.getD j 0) (QaR ro U D xs) i j))) (fun i _=>n5-(intOf i).toNat)
   case atStart=>exact⟨0,Nat.zero_le _,rfl,hbr,_,ho,fun i hi'=>by omega,fun i _ hi'=>hcs i hi'⟩
   case round =>
    clear ho hcs hbr
    obtain⟨q,hq,rfl,hbq,ds,hoq,hd1,hd2⟩:=hrel
    by_cases hltq:q<n5
    ·have hlen:=oLe hoq
     have cell:wr.cell? ⟨w1.heap.size,q,none⟩=some (I4 (Qay (fun j=>SS.getD j 0) (QaR ro U D xs) q j)):=(hoq.cellAt q (by omega)).trans (hd2 q nL hltq)
     have froz:=hoq.frozenAt q
     have wS:=Qcr (fun j=>SS.getD j 0) (QaR ro U D xs) q j
     have ez:Qcd (fun j=>SS.getD j 0) (QaR ro U D xs) j q=cZ (Qac (Qay (fun j=>SS.getD j 0) (QaR ro U D xs) q j) 16):=rfl
     obtain⟨X0,e0⟩:∃ X0,Qay (fun j=>SS.getD j 0) (QaR ro U D xs) q j=X0:=⟨_,rfl⟩
     rw[e0] at cell wS ez
     have ks:=fun W=>refShift_call X0 16 wS (by decide) W
     obtain⟨X1,e1⟩:∃ X1,Qac X0 16=X1:=⟨_,rfl⟩
     have kc:=fun W=>rCc X1 W
     rw[e1] at ks ez
     obtain⟨X2,e2⟩:∃ X2,cZ X1=X2:=⟨_,rfl⟩
     rw[e2] at kc ez
     have R':=hdn (And.intro (hbq.setCell (p:=⟨w1.heap.size,q,none⟩) nL (I4 X2)) (And.intro (hoq.stored q (I4 X2)).1 (And.intro (set_step (F:=fun i=>Value.int .i64 (Qcd (fun j=>SS.getD j 0) (QaR ro U D xs) j i)) hlen hltq (show Value.int .i64 X2=I4 (Qcd (fun j=>SS.getD j 0) (QaR ro U D xs) j q) by rw[ez]) hd1) (show ∀ i,q+1≤i→i<n5→(ds.set q (Value.int .i64 X2))[i]? = some (I4 (Qay (fun j=>SS.getD j 0) (QaR ro U D xs) i j)) from fun i h hi'=>by rw[List.getElem?_set_ne (by omega)];exact hd2 i (by omega) hi'))))
     clear ez e0 e1 e2 hd1 hd2 hoq hbq hlen wS
     go_wp2_with (first
      | (go_at_call 74;refine (ks _).mono ?_;rintro e w' ⟨rfl,hq'⟩;obtain rfl:=hq'.symm)
      | (go_at_call 73;refine (kc _).mono ?_;rintro e w' ⟨rfl,hq'⟩;obtain rfl:=hq'.symm))
     go_roundw
     case rel=>exact⟨q+1,by omega,by go_num,R'.out.1,_,R'.out.2.1,R'.out.2.2.1,R'.out.2.2.2⟩
     case measure=>simp[intOf];omega
    ·have e:q=n5:=by omega
     subst e
     have fin:=oRa (zs:=sumL ro U D (j:Int) xs) hoq hsl (Qj4 _ _ _ _ _) (fun i hi'=>by
      rw[hd1 i hi',hsa i hi',←ESS.out]
      rfl)
     clear hd1 hd2 hoq
     go_wp2
     go_ret2
     exact⟨⟨_,_,rfl,fin⟩,bTn hb1 hbq⟩
theorem Ql0 (x y:Int)(h0:-9223372036854775808≤x+y)(h1:x+y≤9223372036854775807)(w:World):(binOp .add 3 (I4 x) (I4 y)).run Tryz.prog w=.ok (I4 (x+y)) w:=by
 have:=Qho h0 h1
 go_simp
theorem Qd6 (x y z:Int)(e:x*y=z)(h0:-9223372036854775808≤z)(h1:z≤9223372036854775807)(w:World):(binOp .mul 3 (I4 x) (I4 y)).run Tryz.prog w=.ok (I4 z) w:=by
 have:=Qho h0 h1
 go_simp
theorem QkB (x:Addr)(n c P Q d:Nat)(h1:P<Q)(h2:Q≤c)(e:Q-P=d)(w:World):(Instr.sliceAt 34 (.slice (some x) n c) (some (I4 P)) (some (I4 Q)) none).run Tryz.prog w=.ok (.slice (some (x.add P)) d (c-P)) w:=by
 have h3:P≤Q:=by omega
 have h4:¬c=P:=by omega
 go_simp
def haD (i:Nat):Option Nat:=match i with|0=>some 39|1=>some 40|2=>some 41|3=>some 42|4=>some 43|5=>some 44|6=>some 45|7=>some 46|8=>some 47|9=>some 48|10=>some 49|11=>some 50|12=>some 51|13=>some 52|14=>some 53|15=>some 54|16=>some 55|17=>some 56|18=>some 57|19=>some 58|20=>some 59|21=>some 60|22=>some 38|23=>some 61|24=>some 62|25=>some 13|26=>some 14|_=>none
theorem Qnn:∀ i,i<27→∀ j,j<27→haD i=haD j→haD i≠none→i=j:=by decide
theorem Qog:∀ i,i<27→∀ d,haD i=some d→d<67:=by
 intro i hi d h
 have:∀ i,i<27→(haD i).all (fun d=>decide (d<67))=true:=by decide
 have:=this i hi
 rw[h] at this
 simpa using this
def haF (x:Addr)(N c0 n c1 c2 P Y dd k:Nat)(a1 a2:Option Addr)(A A':Nat→Option Addr)(C C':Nat→Nat)(K V:Nat→List Int)(O:List Int)(i:Nat)(q:Value)(w:World):Prop:=match i with
 | 0=>q=.slice (some x) N c0
 | 1=>q=I4 k
 | 2=>q=I4 dd
 | 3=>q=I4 P
 | 4=>q=I4 k
 | 5=>q=I4 ((k:Int)+1)
 | 6=>q=I4 dd
 | 7=>q=I4 Y
 | 8=>q=.slice (some (x.add P)) dd (c0-P)
 | 9=>q=.slice a1 n c1
 | 10=>q=I4 k
 | 11=>q=I4 dd
 | 12=>q=I4 P
 | 13=>q=I4 dd
 | 14=>∃ b j,q=.slice b n j∧Grid w b n (cutA A P) (fun r=>C r-P) (cutR K P dd)
 | 15=>q=.slice a2 n c2
 | 16=>q=I4 k
 | 17=>q=I4 dd
 | 18=>q=I4 P
 | 19=>q=I4 dd
 | 20=>∃ b j,q=.slice b n j∧Grid w b n (cutA A' P) (fun r=>C' r-P) (cutR V P dd)
 | 21=>∃ b j,q=.tuple #[.slice b dd j,I4 0]∧Reads .i64 w b dd O∧(b=none→j=0)
 | 22=>∃ b j,q=.tuple #[.slice b dd j,I4 0]∧Reads .i64 w b dd O∧(b=none→j=0)
 | 23=>∃ b j,q=.slice b dd j∧Reads .i64 w b dd O∧(b=none→j=0)
 | 24=>q=I4 0
 | 25=>∃ b j,q=.slice b dd j∧Reads .i64 w b dd O∧(b=none→j=0)
 | 26=>q=I4 0
 | _=>True
theorem Qlk {x:Addr}{N c0 n c1 c2 P Y dd k:Nat}{a1 a2:Option Addr}{A A':Nat→Option Addr}{C C':Nat→Nat}{K V:Nat→List Int}{O:List Int}{i:Nat}{q:Value}{w w':World}(h:haF x N c0 n c1 c2 P Y dd k a1 a2 A A' C C' K V O i q w)(hb:Bw w w'):haF x N c0 n c1 c2 P Y dd k a1 a2 A A' C C' K V O i q w':=by
 unfold haF at h ⊢
 split
 ·exact h
 ·exact h
 ·exact h
 ·exact h
 ·exact h
 ·exact h
 ·exact h
 ·exact h
 ·exact h
 ·exact h
 ·exact h
 ·exact h
 ·exact h
 ·exact h
 ·obtain⟨b,j,h1,h2⟩:=h;exact⟨b,j,h1,h2.below hb⟩
 ·exact h
 ·exact h
 ·exact h
 ·exact h
 ·exact h
 ·obtain⟨b,j,h1,h2⟩:=h;exact⟨b,j,h1,h2.below hb⟩
 ·obtain⟨b,j,h1,h2,h3⟩:=h;exact⟨b,j,h1,h2.below hb,h3⟩
 ·obtain⟨b,j,h1,h2,h3⟩:=h;exact⟨b,j,h1,h2.below hb,h3⟩
 ·obtain⟨b,j,h1,h2,h3⟩:=h;exact⟨b,j,h1,h2.below hb,h3⟩
 ·exact h
 ·obtain⟨b,j,h1,h2,h3⟩:=h;exact⟨b,j,h1,h2.below hb,h3⟩
 ·exact h
 ·trivial
theorem Qlj {id:Nat}{ops:Array Oper}{Q:Exit→Act→World→Prop}{a0:Act}{w0:World}(x:Addr)(N c0 n c1 c2 P Y dd k:Nat)(a1 a2:Option Addr)(A A':Nat→Option Addr)(C C':Nat→Nat)(K V:Nat→List Int)(O:List Int)(S:World→Prop)(hlow:lowB ops=true)(hsz:ops.size=27)
  (oo:OpS ops 0 39 (.move (.tmp 0)) []∧OpS ops 1 40 (.move (.tmp 12)) []∧OpS ops 2 41 (.move (.tmp 10)) []∧OpS ops 3 42 (.binOp .mul 3 (.tmp 40) (.tmp 41) 3) [1,2]∧OpS ops 4 43 (.move (.tmp 12)) []∧OpS ops 5 44 (.binOp .add 3 (.tmp 43) (.const (I4 1)) 3) [4]∧OpS ops 6 45 (.move (.tmp 10)) []∧OpS ops 7 46 (.binOp .mul 3 (.tmp 44) (.tmp 45) 3) [5,6]∧OpS ops 8 47 (.slice 34 (.tmp 39) (some (.tmp 42)) (some (.tmp 46)) none) [0,3,7]∧OpS ops 9 48 (.move (.tmp 1)) []∧OpS ops 10 49 (.move (.tmp 12)) []∧OpS ops 11 50 (.move (.tmp 10)) []∧OpS ops 12 51 (.binOp .mul 3 (.tmp 49) (.tmp 50) 3) [10,11]∧OpS ops 13 52 (.move (.tmp 10)) []∧OpS ops 14 53 (.call { callee:=.value (.func 109),args:=#[.tmp 48,.tmp 51,.tmp 52],argTypes:=#[31,3,3] }) [9,12,13]∧OpS ops 15 54 (.move (.tmp 2)) []∧OpS ops 16 55 (.move (.tmp 12)) []∧OpS ops 17 56 (.move (.tmp 10)) []∧OpS ops 18 57 (.binOp .mul 3 (.tmp 55) (.tmp 56) 3) [16,17]∧OpS ops 19 58 (.move (.tmp 10)) []∧OpS ops 20 59 (.call { callee:=.value (.func 109),args:=#[.tmp 54,.tmp 57,.tmp 58],argTypes:=#[31,3,3] }) [15,18,19]∧OpS ops 21 60 (.call { callee:=.value (.func 108),args:=#[.tmp 47,.tmp 53,.tmp 59],argTypes:=#[34,31,31] }) [8,14,20]∧OpS ops 22 38 (.move (.tmp 60)) [21]∧OpS ops 23 61 (.extract (.tmp 38) 0) [22]∧OpS ops 24 62 (.extract (.tmp 38) 1) [22]∧OpS ops 25 13 (.assign (.tmp 61)) [23]∧OpS ops 26 14 (.assign (.tmp 62)) [24])
  (hS:S w0.drew)
  (x3:∀ w,(binOp .mul 3 (I4 k) (I4 dd)).run Tryz.prog w=.ok (I4 P) w)
  (x5:∀ w,(binOp .add 3 (I4 k) (I4 1)).run Tryz.prog w=.ok (I4 ((k:Int)+1)) w)
  (x7:∀ w,(binOp .mul 3 (I4 ((k:Int)+1)) (I4 dd)).run Tryz.prog w=.ok (I4 Y) w)
  (x8:∀ w,(Instr.sliceAt 34 (.slice (some x) N c0) (some (I4 P)) (some (I4 Y)) none).run Tryz.prog w=.ok (.slice (some (x.add P)) dd (c0-P)) w)
  (x12:∀ w,(binOp .mul 3 (I4 k) (I4 dd)).run Tryz.prog w=.ok (I4 P) w)
  (x14:∀ w,S w→Calls Tryz.prog 109 #[.slice a1 n c1,I4 P,I4 dd] w fun e w'=>∃ b j,e=.returned (.slice b n j)∧Grid w' b n (cutA A P) (fun r=>C r-P) (cutR K P dd)∧Bw w w'∧S w')
  (x18:∀ w,(binOp .mul 3 (I4 k) (I4 dd)).run Tryz.prog w=.ok (I4 P) w)
  (x20:∀ w,S w→Calls Tryz.prog 109 #[.slice a2 n c2,I4 P,I4 dd] w fun e w'=>∃ b j,e=.returned (.slice b n j)∧Grid w' b n (cutA A' P) (fun r=>C' r-P) (cutR V P dd)∧Bw w w'∧S w')
  (x21:∀ w,S w→∀ b j b' j',Grid w b n (cutA A P) (fun r=>C r-P) (cutR K P dd)→Grid w b' n (cutA A' P) (fun r=>C' r-P) (cutR V P dd)→Calls Tryz.prog 108 #[.slice (some (x.add P)) dd (c0-P),.slice b n j,.slice b' n j'] w fun e w'=>∃ b j,e=.returned (.tuple #[.slice b dd j,I4 0])∧Reads .i64 w' b dd O∧(b=none→j=0)∧Bw w w'∧S w')
  (u0:a0.tmps.getD 0 undef=.slice (some x) N c0)
  (u1:a0.tmps.getD 1 undef=.slice a1 n c1)
  (u2:a0.tmps.getD 2 undef=.slice a2 n c2)
  (u10:a0.tmps.getD 10 undef=I4 dd)
  (u12:a0.tmps.getD 12 undef=I4 k)
  (hs:67≤a0.tmps.size)
  (fin:∀ a w,a.tmps.size=a0.tmps.size→a.defers=a0.defers→(∀ s,(∀ i,i<27→haD i≠some s)→a.tmps.getD s undef=a0.tmps.getD s undef)→S w→(∀ i d,i<27→haD i=some d→haF x N c0 n c1 c2 P Y dd k a1 a2 A A' C C' K V O i (a.tmps.getD d undef) w)→Q .normal a w):(Code.region id ops true).wp Tryz.prog Q a0 w0:=by
 obtain⟨o0,o1,o2,o3,o4,o5,o6,o7,o8,o9,o10,o11,o12,o13,o14,o15,o16,o17,o18,o19,o20,o21,o22,o23,o24,o25,o26⟩:=oo
 have r11:∀ args w,(callFunc 108 args).run Tryz.prog w=.ok (.enter 108 args) w:=eNo Tryz.func108 (by kernel_rfl) rfl
 have r32:∀ args w,(callFunc 109 args).run Tryz.prog w=.ok (.enter 109 args) w:=eNo Tryz.func109 (by kernel_rfl) rfl
 refine wRi (by kernel_rfl) hlow (Inv 27 haD a0 (fun _ _ w=>S w) (fun _=>haF x N c0 n c1 c2 P Y dd k a1 a2 A A' C C' K V O)) (Inv.start hS) ?_ ?_
 ·intro l i o a w ho hl hcl hdep hI
  have hi:i<27:=by rw[←hsz];exact (Array.getElem?_eq_some_iff.1 ho).1
  have ev:∀ (s:Nat),a.eval (.tmp s)=a.tmps.getD s undef:=fun _=>rfl
  have evf:∀ f,a.eval (.func f)=.func (.func f) #[] #[]:=fun _=>rfl
  have evc:∀ c:Value,a.eval (.const c)=c:=fun _=>rfl
  have inj:∀ d,haD i=some d→∀ j d',j<27→haD j=some d'→j≠i→d'≠d:=fun d hd j d' hj hd' hne e=>hne (Qnn j hj i hi (by rw[hd',hd,e]) (by rw[hd'];simp))
  have kp:∀ s,(∀ i,i<27→haD i≠some s)→a.tmps.getD s undef=a0.tmps.getD s undef:=hI.kept
  have hw:S w:=hI.world
  have go:∀ {d:Nat}{v:Value}{w':World},haD i=some d→Bw w w'→S w'→haF x N c0 n c1 c2 P Y dd k a1 a2 A A' C C' K V O i v w'→Inv 27 haD a0 (fun _ _ w=>S w) (fun _=>haF x N c0 n c1 c2 P Y dd k a1 a2 A A' C C' K V O) (fun j=>l j || j==i) (a.put (some d) v) w':=by
   intro d v w' hD hb hS' hF
   exact hI.put hi hD (Nat.lt_of_lt_of_le (Qog i hi d hD) hs) (inj d hD) hS' hF (fun j u _ _ _ hf=>Qlk hf hb)
  rcases l27 (show i<27 by omega) with rfl|rfl|rfl|rfl|rfl|rfl|rfl|rfl|rfl|rfl|rfl|rfl|rfl|rfl|rfl|rfl|rfl|rfl|rfl|rfl|rfl|rfl|rfl|rfl|rfl|rfl|rfl
  ·obtain⟨e2,e3,e4,dp⟩:=o0.at_ ho hdep
   have U0:=(kp 0 (by decide)).trans u0
   exact wVa (v:=.slice (some x) N c0) (w':=w) ho e4 (by simp[execOp,e3,ev,evc,U0]) (by rw[e2];exact go rfl bR hw rfl)
  ·obtain⟨e2,e3,e4,dp⟩:=o1.at_ ho hdep
   have U12:=(kp 12 (by decide)).trans u12
   exact wVa (v:=I4 k) (w':=w) ho e4 (by simp[execOp,e3,ev,evc,U12]) (by rw[e2];exact go rfl bR hw rfl)
  ·obtain⟨e2,e3,e4,dp⟩:=o2.at_ ho hdep
   have U10:=(kp 10 (by decide)).trans u10
   exact wVa (v:=I4 dd) (w':=w) ho e4 (by simp[execOp,e3,ev,evc,U10]) (by rw[e2];exact go rfl bR hw rfl)
  ·obtain⟨e2,e3,e4,dp⟩:=o3.at_ ho hdep
   have V1:tm a 40=_:=hI.vl dp 1 40 rfl rfl
   have V2:tm a 41=_:=hI.vl dp 2 41 rfl rfl
   exact wVa (v:=I4 P) (w':=w) ho e4 (by simp[execOp,e3,ev,evc,V1,V2,x3 w,eqGuard]) (by rw[e2];exact go rfl bR hw rfl)
  ·obtain⟨e2,e3,e4,dp⟩:=o4.at_ ho hdep
   have U12:=(kp 12 (by decide)).trans u12
   exact wVa (v:=I4 k) (w':=w) ho e4 (by simp[execOp,e3,ev,evc,U12]) (by rw[e2];exact go rfl bR hw rfl)
  ·obtain⟨e2,e3,e4,dp⟩:=o5.at_ ho hdep
   have V4:tm a 43=_:=hI.vl dp 4 43 rfl rfl
   exact wVa (v:=I4 ((k:Int)+1)) (w':=w) ho e4 (by simp[execOp,e3,ev,evc,V4,x5 w,eqGuard]) (by rw[e2];exact go rfl bR hw rfl)
  ·obtain⟨e2,e3,e4,dp⟩:=o6.at_ ho hdep
   have U10:=(kp 10 (by decide)).trans u10
   exact wVa (v:=I4 dd) (w':=w) ho e4 (by simp[execOp,e3,ev,evc,U10]) (by rw[e2];exact go rfl bR hw rfl)
  ·obtain⟨e2,e3,e4,dp⟩:=o7.at_ ho hdep
   have V5:tm a 44=_:=hI.vl dp 5 44 rfl rfl
   have V6:tm a 45=_:=hI.vl dp 6 45 rfl rfl
   exact wVa (v:=I4 Y) (w':=w) ho e4 (by simp[execOp,e3,ev,evc,V5,V6,x7 w,eqGuard]) (by rw[e2];exact go rfl bR hw rfl)
  ·obtain⟨e2,e3,e4,dp⟩:=o8.at_ ho hdep
   have V0:tm a 39=_:=hI.vl dp 0 39 rfl rfl
   have V3:tm a 42=_:=hI.vl dp 3 42 rfl rfl
   have V7:tm a 46=_:=hI.vl dp 7 46 rfl rfl
   exact wVa (v:=.slice (some (x.add P)) dd (c0-P)) (w':=w) ho e4 (by simp[execOp,e3,ev,evc,V0,V3,V7,x8 w]) (by rw[e2];exact go rfl bR hw rfl)
  ·obtain⟨e2,e3,e4,dp⟩:=o9.at_ ho hdep
   have U1:=(kp 1 (by decide)).trans u1
   exact wVa (v:=.slice a1 n c1) (w':=w) ho e4 (by simp[execOp,e3,ev,evc,U1]) (by rw[e2];exact go rfl bR hw rfl)
  ·obtain⟨e2,e3,e4,dp⟩:=o10.at_ ho hdep
   have U12:=(kp 12 (by decide)).trans u12
   exact wVa (v:=I4 k) (w':=w) ho e4 (by simp[execOp,e3,ev,evc,U12]) (by rw[e2];exact go rfl bR hw rfl)
  ·obtain⟨e2,e3,e4,dp⟩:=o11.at_ ho hdep
   have U10:=(kp 10 (by decide)).trans u10
   exact wVa (v:=I4 dd) (w':=w) ho e4 (by simp[execOp,e3,ev,evc,U10]) (by rw[e2];exact go rfl bR hw rfl)
  ·obtain⟨e2,e3,e4,dp⟩:=o12.at_ ho hdep
   have V10:tm a 49=_:=hI.vl dp 10 49 rfl rfl
   have V11:tm a 50=_:=hI.vl dp 11 50 rfl rfl
   exact wVa (v:=I4 P) (w':=w) ho e4 (by simp[execOp,e3,ev,evc,V10,V11,x12 w,eqGuard]) (by rw[e2];exact go rfl bR hw rfl)
  ·obtain⟨e2,e3,e4,dp⟩:=o13.at_ ho hdep
   have U10:=(kp 10 (by decide)).trans u10
   exact wVa (v:=I4 dd) (w':=w) ho e4 (by simp[execOp,e3,ev,evc,U10]) (by rw[e2];exact go rfl bR hw rfl)
  ·obtain⟨e2,e3,e4,dp⟩:=o14.at_ ho hdep
   have V9:tm a 48=_:=hI.vl dp 9 48 rfl rfl
   have V12:tm a 51=_:=hI.vl dp 12 51 rfl rfl
   have V13:tm a 52=_:=hI.vl dp 13 52 rfl rfl
   refine wCa (f:=109) (args:=#[.slice a1 n c1,I4 P,I4 dd]) ho e4 (by simp[execOp,e3,resolve,invoke,Deferred.ofValue,r32,ev,evf,evc,V9,V12,V13]) ((x14 w hw).mono ?_)
   rintro e W' ⟨b,j,rfl,hr6,hb6,hs6⟩
   refine⟨_,rfl,?_⟩
   rw[e2]
   exact go rfl hb6 hs6 ⟨b,j,rfl,hr6⟩
  ·obtain⟨e2,e3,e4,dp⟩:=o15.at_ ho hdep
   have U2:=(kp 2 (by decide)).trans u2
   exact wVa (v:=.slice a2 n c2) (w':=w) ho e4 (by simp[execOp,e3,ev,evc,U2]) (by rw[e2];exact go rfl bR hw rfl)
  ·obtain⟨e2,e3,e4,dp⟩:=o16.at_ ho hdep
   have U12:=(kp 12 (by decide)).trans u12
   exact wVa (v:=I4 k) (w':=w) ho e4 (by simp[execOp,e3,ev,evc,U12]) (by rw[e2];exact go rfl bR hw rfl)
  ·obtain⟨e2,e3,e4,dp⟩:=o17.at_ ho hdep
   have U10:=(kp 10 (by decide)).trans u10
   exact wVa (v:=I4 dd) (w':=w) ho e4 (by simp[execOp,e3,ev,evc,U10]) (by rw[e2];exact go rfl bR hw rfl)
  ·obtain⟨e2,e3,e4,dp⟩:=o18.at_ ho hdep
   have V16:tm a 55=_:=hI.vl dp 16 55 rfl rfl
   have V17:tm a 56=_:=hI.vl dp 17 56 rfl rfl
   exact wVa (v:=I4 P) (w':=w) ho e4 (by simp[execOp,e3,ev,evc,V16,V17,x18 w,eqGuard]) (by rw[e2];exact go rfl bR hw rfl)
  ·obtain⟨e2,e3,e4,dp⟩:=o19.at_ ho hdep
   have U10:=(kp 10 (by decide)).trans u10
   exact wVa (v:=I4 dd) (w':=w) ho e4 (by simp[execOp,e3,ev,evc,U10]) (by rw[e2];exact go rfl bR hw rfl)
  ·obtain⟨e2,e3,e4,dp⟩:=o20.at_ ho hdep
   have V15:tm a 54=_:=hI.vl dp 15 54 rfl rfl
   have V18:tm a 57=_:=hI.vl dp 18 57 rfl rfl
   have V19:tm a 58=_:=hI.vl dp 19 58 rfl rfl
   refine wCa (f:=109) (args:=#[.slice a2 n c2,I4 P,I4 dd]) ho e4 (by simp[execOp,e3,resolve,invoke,Deferred.ofValue,r32,ev,evf,evc,V15,V18,V19]) ((x20 w hw).mono ?_)
   rintro e W' ⟨b,j,rfl,hr6,hb6,hs6⟩
   refine⟨_,rfl,?_⟩
   rw[e2]
   exact go rfl hb6 hs6 ⟨b,j,rfl,hr6⟩
  ·obtain⟨e2,e3,e4,dp⟩:=o21.at_ ho hdep
   have V8:tm a 47=_:=hI.vl dp 8 47 rfl rfl
   obtain⟨b14,j14,V14,f14⟩:=hI.vl dp 14 53 rfl rfl
   obtain⟨b20,j20,V20,f20⟩:=hI.vl dp 20 59 rfl rfl
   refine wCa (f:=108) (args:=#[.slice (some (x.add P)) dd (c0-P),.slice b14 n j14,.slice b20 n j20]) ho e4 (by simp[execOp,e3,resolve,invoke,Deferred.ofValue,r11,ev,evf,evc,V8,V14,V20]) ((x21 w hw b14 j14 b20 j20 f14 f20).mono ?_)
   rintro e W' ⟨b,j,rfl,hr6,hz6,hb6,hs6⟩
   refine⟨_,rfl,?_⟩
   rw[e2]
   exact go rfl hb6 hs6 ⟨b,j,rfl,hr6,hz6⟩
  ·obtain⟨e2,e3,e4,dp⟩:=o22.at_ ho hdep
   obtain⟨b21,j21,V21,f21,z21⟩:=hI.vl dp 21 60 rfl rfl
   exact wVa (v:=.tuple #[.slice b21 dd j21,I4 0]) (w':=w) ho e4 (by simp[execOp,e3,ev,evc,V21]) (by rw[e2];exact go rfl bR hw ⟨_,_,rfl,f21,z21⟩)
  ·obtain⟨e2,e3,e4,dp⟩:=o23.at_ ho hdep
   obtain⟨b22,j22,V22,f22,z22⟩:=hI.vl dp 22 38 rfl rfl
   exact wVa (v:=.slice b22 dd j22) (w':=w) ho e4 (by simp[execOp,e3,ev,evc,V22,Instr.extract]) (by rw[e2];exact go rfl bR hw ⟨_,_,rfl,f22,z22⟩)
  ·obtain⟨e2,e3,e4,dp⟩:=o24.at_ ho hdep
   obtain⟨b22,j22,V22,f22,z22⟩:=hI.vl dp 22 38 rfl rfl
   exact wVa (v:=I4 0) (w':=w) ho e4 (by simp[execOp,e3,ev,evc,V22,Instr.extract]) (by rw[e2];exact go rfl bR hw rfl)
  ·obtain⟨e2,e3,e4,dp⟩:=o25.at_ ho hdep
   obtain⟨b23,j23,V23,f23,z23⟩:=hI.vl dp 23 61 rfl rfl
   exact wVa (v:=.slice b23 dd j23) (w':=w) ho e4 (by simp[execOp,e3,ev,evc,V23]) (by rw[e2];exact go rfl bR hw ⟨_,_,rfl,f23,z23⟩)
  ·obtain⟨e2,e3,e4,dp⟩:=o26.at_ ho hdep
   have V24:tm a 62=_:=hI.vl dp 24 62 rfl rfl
   exact wVa (v:=I4 0) (w':=w) ho e4 (by simp[execOp,e3,ev,evc,V24]) (by rw[e2];exact go rfl bR hw rfl)
 ·intro l a w hall hI
  have all:∀ j,j<27→l j=true:=fun j hj=>hall j (by rw[hsz];exact hj)
  exact fin a w hI.size hI.defers hI.kept hI.world (fun i d hi hD=>hI.val i d hi hD (all i hi))
end Go.Proofs.YthliomlmhfjhnaaGreat

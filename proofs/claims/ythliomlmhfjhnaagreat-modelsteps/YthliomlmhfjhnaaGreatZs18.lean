/- Texts put together. -/
import Derived.Test.YthliomlmhfjhnaaGreatZs8
import Derived.Test.YthliomlmhfjhnaaGreatZs10
namespace Go.Proofs.YthliomlmhfjhnaaGreat
set_option maxRecDepth 20000
set_option maxHeartbeats 16000000
open Go.ChangeShapes Go.WideShapes Go.ChangeAt Go.RowKit
set_option linter.unusedVariables false
set_option linter.unusedSimpArgs false
theorem own_none {w:World}{B:Nat}{e:TypeId}{a:Option Addr}{n m c:Nat}{cs:List Value}(h:w.ownsRow B e 1 (.slice a n c) m cs):a=none→c=0:=by
 intro ha
 subst ha
 rcases h.2 with⟨h,_⟩|⟨g,cap,cur,h,_⟩
 ·simp only[Value.slice.injEq] at h
  exact h.2.2
 ·simp at h
def placeF (xs:List Int)(j:Nat):Int:=((places xs).getD j 0:Nat)
theorem top_reads {xs:List Int}{k:Int}{M:Nat}(hM:M=min k.toNat xs.length){w:World}{B:Nat}{v:Value}(hm:xs.length≤9223372036854775807)(h:w.ownsRow B 3 1 v M (gath (placeF xs) .i64 M)) :
  ∃ a c,v=.slice a M c∧Reads .i64 w a M (pickZ xs k)∧(a=none→c=0)∧M≤c:=by
 obtain⟨a,c,rfl,hr⟩:=oRe (k:=.i64) (zs:=pickZ xs k) h (by rw[topZ_length,hM]) (fun z hz=>by rw[topZ_all] at hz;exact allZ_wf xs hm z (List.mem_of_mem_take hz)) (fun j hj=>by rw[gath_at _ _ _ _ hj,topZ_at xs k j (by omega)];rfl)
 exact⟨a,c,rfl,hr,own_none h,own_cap h⟩
theorem refTop_call (a0:Option Addr)(n c0:Nat)(xs:List Int)(k:Int)(w:World)(h0:Reads .i64 w a0 n xs)(hb:n*8≤140737488355328) :
  Calls Tryz.prog 130 #[.slice a0 n c0,.int .i64 k] w fun e w'=>(∃ a c,e=.returned (.slice a (min k.toNat n) c)∧Reads .i64 w' a (min k.toNat n) (pickZ xs k)∧(a=none→c=0)∧min k.toNat n≤c)∧Below w.heap.size w w':=by
 obtain⟨i0,hi,hz0,hz1,hz2⟩:=info_parts info3
 have hm:=h0.max
 have hl:=h0.len
 obtain⟨M,eM⟩:∃ M,min k.toNat n=M:=⟨_,rfl⟩
 rw[eM]
 have fin:=fun (W:World) (v:Value) (h:W.ownsRow w.heap.size 3 1 v M (gath (placeF xs) .i64 M))=>top_reads (xs:=xs) (k:=k) (by omega) (by omega) h
 have hord:=places_ordered xs
 rw[hl] at hord
 go_enter Tryz.func130,Tryz.ntmps130
 go_wp2
 go_loopw [5,6] (fun v i wr=>∃ q:Nat,q≤M∧i=.int .i64 q∧Below w.heap.size w wr∧wr.ownsRow w.heap.size 3 1 v q (gath (placeF xs) .i64 q)) (fun _ i _=>M-(intOf i).toNat)
 case atStart=>exact⟨0,Nat.zero_le _,rfl,Below.refl _ _,World.ownsRow_nil _ _ _ _⟩
 case round =>
  obtain⟨q,hq,rfl,hbr,ho⟩:=hrel
  by_cases hlt:q<M
  ·have t1:(q:Int)<(n:Int):=by omega
   have t2:(q:Int)<k:=by omega
   have hqn:q<n:=by omega
   have hs:=hord.lt hqn
   have hri:=fun i (hi:i<n)=>hord.rank_iff (i:=i) (k:=q) hi hqn
   have hF:Hid (placeF xs q=((places xs).getD q 0:Nat)):=show placeF xs q=_ from rfl
   obtain⟨s,es⟩:∃ s,(places xs).getD q 0=s:=⟨_,rfl⟩
   rw[es] at hs hri hF
   have Hbr:Hid (Below w.heap.size w wr):=hbr
   have Ho:Hid (wr.ownsRow w.heap.size 3 1 u5 q (gath (placeF xs) .i64 q)):=ho
   clear es ho hbr
   go_wp2
   go_loopw [5,7] (fun v i wr=>∃ r C:Nat,r≤n∧i=.int .i64 r∧Below w.heap.size w wr∧((s<r∧C=q+1)∨(r≤s∧C=q))∧wr.ownsRow w.heap.size 3 1 v C (gath (placeF xs) .i64 C)) (fun _ i _=>n-(intOf i).toNat)
   case atStart=>exact⟨0,q,Nat.zero_le _,rfl,Hbr.out,.inr ⟨Nat.zero_le _,rfl⟩,Ho.out⟩
   case round =>
    obtain⟨r,C,hr,rfl,hbr,hC,ho⟩:=hrel
    by_cases hrn:r<n
    ·have kr:=refRank_ok a0 n c0 xs r wr (h0.below hbr) hrn
     have hri':=hri r hrn
     have hR:=rankTo_le xs n r
     obtain⟨R,eR⟩:∃ R,rankTo xs n r=R:=⟨_,rfl⟩
     rw[eR] at kr hri' hR
     clear eR hri
     by_cases hrs:s=r
     ·have e1:R=q:=hri'.2 hrs
      subst e1
      obtain rfl:C=R:=by omega
      have hz:Hid ((r:Int)=placeF xs C):=show (r:Int)=placeF xs C by rw[hF.out,hrs]
      have hsz:=hbr.size
      have hsr:s<r+1:=by omega
      clear hri' hC hF hrs
      go_wp2_with (first
       | (go_at_call 145;refine kr.mono ?_;rintro e W2 ⟨rfl,hw2⟩;replace hbr:=bDr hbr hw2;replace ho:=oBe ho (bDr (Below.refl _ _) hw2);have hsz2:=hbr.size;clear hw2)
       | (at_builtin;refine wpList_append_own _ rfl (.tmp 30) (.tmp 32) 45 rfl w.heap.size 3 i0 (.int .i64 0) 1 8 Tryz.underlying45 hi hz0 hz1 hz2 rfl (by decide) _ _ _ rfl (ho.alloc _) ⟨_,0,none⟩ 1 1 [.int .i64 (r:Nat)] rfl rfl (one_new _ _ _) (oOc _ _) (by unfold maxLen;omega) (by omega) (by simp;omega) ?_;intro v' w1 ho' hg _))
      go_roundw
      case rel =>
       have st:=aSt hsz2 hz.out hbr ho ho' hg
       exact⟨r+1,C+1,by omega,by go_num,st.1,.inl ⟨hsr,rfl⟩,st.2⟩
      case measure=>simp[intOf];omega
     ·have e1:¬R=q:=fun h=>hrs (hri'.1 h)
      have e2:¬(R:Int)=(q:Int):=by omega
      have HC:Hid ((s<r+1∧C=q+1)∨(r+1≤s∧C=q)):=show (s<r+1∧C=q+1)∨(r+1≤s∧C=q) by omega
      clear hri' hC hF
      go_wp2_with (first
       | (go_at_call 145;refine kr.mono ?_;rintro e W2 ⟨rfl,hw2⟩;replace hbr:=bDr hbr hw2;replace ho:=oBe ho (bDr (Below.refl _ _) hw2);clear hw2))
      go_roundw
      case rel=>exact⟨r+1,C,by omega,by go_num,hbr,HC.out,ho⟩
      case measure=>simp[intOf];omega
    ·have e:r=n:=by omega
     subst e
     obtain rfl:C=q+1:=by omega
     clear hC hF hri
     go_wp2
     go_roundw
     case rel=>exact⟨q+1,by omega,by go_num,hbr,ho⟩
     case measure=>simp[intOf];omega
  ·have e:q=M:=by omega
   subst e
   obtain⟨a,c,rfl,R⟩:=fin _ _ ho
   clear fin ho hord
   by_cases hqn:q<n
   ·have t1:(q:Int)<(n:Int):=by omega
    have t2:¬(q:Int)<k:=by omega
    clear eM
    go_wp2
    go_ret
    exact⟨⟨_,_,rfl,R⟩,hbr⟩
   ·have t1:¬(q:Int)<(n:Int):=by omega
    clear eM
    go_wp2
    go_ret
    exact⟨⟨_,_,rfl,R⟩,hbr⟩
theorem below_drawn {w W:World}{m:Nat}(h:Below (w.drewN m).heap.size (w.drewN m) W):Below w.heap.size w W:=⟨h.os,h.tape,h.output,h.size,h.block⟩
theorem refTurn_ok (a0:Option Addr)(h c0:Nat)(xs:List Int)(p:Int)(w:World)(h0:Reads .i64 w a0 (2*h) xs)(hp:0≤p∧p≤1000)(hb:2*h*8≤140737488355328) :
  Calls Tryz.prog 106 #[.slice a0 (2*h) c0,.int .i64 p] w fun e w'=>(∃ a c,e=.returned (.tuple #[.slice a (2*h) c,.int .i64 0])∧Reads .i64 w' a (2*h) (turnZ xs p (2*h))∧(a=none→c=0))∧Below w.heap.size w w':=by
 obtain⟨i0,hi,hz0,hz1,hz2⟩:=info_parts info2
 obtain⟨p0,p1⟩:=hp
 have hm:=h0.max
 obtain⟨n,en⟩:∃ n,2*h=n:=⟨_,rfl⟩
 rw[en] at h0 hb hm ⊢
 have ev:((n:Int)%2==0)=true:=by simp;omega
 have hf:(n:Int)/2=(h:Int):=by omega
 unfold turnZ
 go_enter Tryz.func106,Tryz.ntmps106
 go_wp2
 go_loopw [6,7] (fun v i wr=>∃ k:Nat,k≤h∧i=.int .i64 k∧Below w.heap.size w wr∧wr.ownsRow w.heap.size 2 1 v (2*k) (gath (turnF xs p) .i64 (2*k))) (fun _ i _=>h-(intOf i).toNat)
 case atStart=>exact⟨0,Nat.zero_le _,rfl,Below.refl _ _,World.ownsRow_nil _ _ _ _⟩
 case round =>
  obtain⟨k,hk,rfl,hbr,ho⟩:=hrel
  by_cases hlt:k<h
  ·have hr:=h0.below hbr
   obtain⟨x,rfl⟩:=h0.some_ (by omega)
   have cx:=hr.cell x rfl (2*k) (by omega)
   have cy:=hr.cell x rfl (2*k+1) (by omega)
   have wx:=h0.wf (2*k)
   have wy:=h0.wf (2*k+1)
   have eA:=turnF_even xs p k
   have eB:=turnF_odd xs p k
   unfold turnA at eA
   unfold turnB at eB
   have m0:0≤p*((k:Int)+1):=Int.mul_nonneg p0 (by omega)
   have m1:p*((k:Int)+1)≤1000*((k:Int)+1):=Int.mul_le_mul_of_nonneg_right p1 (by omega)
   obtain⟨M,eM⟩:∃ M,p*((k:Int)+1)=M:=⟨_,rfl⟩
   rw[eM] at m0 m1 eA eB
   obtain⟨X,eX⟩:∃ X,xs.getD (2*k) 0=X:=⟨_,rfl⟩
   obtain⟨Y,eY⟩:∃ Y,xs.getD (2*k+1) 0=Y:=⟨_,rfl⟩
   rw[eX] at cx wx
   rw[eY] at cy wy
   rw[eX,eY] at eA eB
   have cb:=cosZ_bounds M
   have sb:=sinZ_bounds M
   have kc:=fun W=>refCos_call M W
   have ks:=fun W=>refSin_call M W
   obtain⟨C,eC⟩:∃ C,cosZ M=C:=⟨_,rfl⟩
   obtain⟨S,eS⟩:∃ S,sinZ M=S:=⟨_,rfl⟩
   rw[eC] at cb kc eA eB
   rw[eS] at sb ks eA eB
   have wC:(Lit.int .i64 C).wf=true:=WalkArith.wf_i64 ⟨by omega,by omega⟩
   have wS:(Lit.int .i64 S).wf=true:=WalkArith.wf_i64 ⟨by omega,by omega⟩
   obtain⟨p0,p1⟩:=mulZ_bounds X C
   obtain⟨q0,q1⟩:=mulZ_bounds Y S
   obtain⟨r0,r1⟩:=mulZ_bounds X S
   obtain⟨s0,s1⟩:=mulZ_bounds Y C
   obtain⟨i,ei⟩:∃ i,2*k=i:=⟨_,rfl⟩
   have ik:2*(k:Int)=(i:Int):=by omega
   have hin:i+1<n:=by omega
   rw[ei] at cx cy ho eA eB
   obtain⟨i',ei'⟩:∃ i',i+1=i':=⟨_,rfl⟩
   rw[ei'] at cy hin
   have ik':(i:Int)+1=(i':Int):=by omega
   have Ei:Hid (i+1+1=2*(k+1)):=show i+1+1=2*(k+1) by omega
   have EA:Hid (cZ (mulZ X C-mulZ Y S)=turnF xs p i):=eA.symm
   have EB:Hid (cZ (mulZ X S+mulZ Y C)=turnF xs p (i+1)):=eB.symm
   have hle:i+1+1≤n:=by omega
   clear ei ei' eA eB eX eY hr h0 ev en eC eS cb sb
   go_wp2
   go_quiet (fail)
   go_wp2_with (first
    | (go_at_call 125;refine (kc _).mono ?_;rintro e W2 ⟨rfl,hb2⟩;replace hb2:=below_drawn hb2)
    | (go_at_call 126;refine (ks _).mono ?_;rintro e W3 ⟨rfl,hb3⟩;replace hb3:=bTn hb2 hb3;replace ho:=oBe ho hb3;replace hbr:=bTn hbr hb3;clear hb2 hb3;have hsz:=hbr.size)
    | (go_at_call 76;refine (refMul_call _ _ (by assumption) (by assumption) _).mono ?_;rintro e w' ⟨rfl,h⟩;obtain rfl:=h.symm)
    | (go_at_call 73;refine (rCc _ _).mono ?_;rintro e w' ⟨rfl,h⟩;obtain rfl:=h.symm)
    | (at_builtin;refine wpList_append_own _ rfl (.tmp 51) (.tmp 60) 34 rfl w.heap.size 2 i0 (.int .i64 0) 1 8 Tryz.underlying34 hi hz0 hz1 hz2 rfl (by decide) _ _ _ rfl (ho.alloc _) ⟨_,0,none⟩ 1 1 [.int .i64 (cZ (mulZ X C-mulZ Y S))] rfl rfl (one_new _ _ _) (oOc _ _) (by unfold maxLen;omega) (by omega) (by simp;omega) ?_;intro v1 w1 ho1 hg1 _;obtain⟨hb4,ho4⟩:=aSt hsz EA.out hbr ho ho1 hg1;clear ho1 hg1 ho;have hsz4:=hb4.size)
    | (at_builtin;refine wpList_append_own _ rfl (.tmp 62) (.tmp 71) 34 rfl w.heap.size 2 i0 (.int .i64 0) 1 8 Tryz.underlying34 hi hz0 hz1 hz2 rfl (by decide) _ _ _ rfl (ho4.alloc _) ⟨_,0,none⟩ 1 1 [.int .i64 (cZ (mulZ X S+mulZ Y C))] rfl rfl (one_new _ _ _) (oOc _ _) (by unfold maxLen;omega) (by omega) (by simp;omega) ?_;intro v2 w2 ho2 hg2 _;have R:=aSt hsz4 EB.out hb4 ho4 ho2 hg2;clear ho2 hg2 ho4))
   go_roundw
   case rel=>exact⟨k+1,by omega,by go_num,R.1,by rw[←Ei.out];exact R.2⟩
   case measure=>simp[intOf];omega
  ·have e:k=h:=by omega
   subst e
   rw[en] at ho
   have fin:=oRe (zs:=(List.range n).map (turnF xs p)) ho (by simp) (fun z hz=>by obtain⟨y,_,rfl⟩:=List.mem_map.1 hz;exact wf_turnF _ _ _) (fun j hj=>by rw[gath_at _ _ _ _ hj];simp[hj])
   obtain⟨a,c,rfl,hr⟩:=fin
   have hn:=own_none ho
   clear ho
   go_wp2
   go_ret2
   exact⟨⟨_,_,rfl,hr,hn⟩,hbr⟩
end Go.Proofs.YthliomlmhfjhnaaGreat

/- Texts put together. -/
import Derived.Test.YthliomlmhfjhnaaGreatZp11
import Derived.Test.YthliomlmhfjhnaaGreatZp12
namespace Go.Proofs.YthliomlmhfjhnaaGreat
set_option maxRecDepth 20000
set_option maxHeartbeats 16000000
open Go.ChangeShapes Go.WideShapes Go.ChangeAt Go.RowKit
set_option linter.unusedVariables false
set_option linter.unusedSimpArgs false
theorem QiM {w:World}{B:Nat}{e:TypeId}{a:Option Addr}{n m c:Nat}{cs:List Value}(h:w.ownsRow B e 1 (.slice a n c) m cs):a=none→c=0:=by
 intro ha
 subst ha
 rcases h.2 with⟨h,_⟩|⟨g,cap,cur,h,_⟩
 ·simp only[Value.slice.injEq] at h
  exact h.2.2
 ·simp at h
def placeF (xs:List Int)(j:Nat):Int:=((QaX xs).getD j 0:Nat)
theorem Qkf {xs:List Int}{k:Int}{M:Nat}(hM:M=min k.toNat xs.length){w:World}{B:Nat}{v:Value}(hm:xs.length≤9223372036854775807)(h:w.ownsRow B 3 1 v M (gath (placeF xs) .i64 M)) :
  ∃ a c,v=.slice a M c∧Reads .i64 w a M (Qcf xs k)∧(a=none→c=0)∧M≤c:=by
 obtain⟨a,c,rfl,hr⟩:=oRe (k:=.i64) (zs:=Qcf xs k) h (by rw[Qhs,hM]) (fun z hz=>by rw[QiD] at hz;exact QiA xs hm z (List.mem_of_mem_take hz)) (fun j hj=>by rw[QaP _ _ _ _ hj,Qkh xs k j (by omega)];rfl)
 exact⟨a,c,rfl,hr,QiM h,QaL h⟩
theorem QhS (a0:Option Addr)(n c0:Nat)(xs:List Int)(k:Int)(w:World)(h0:Reads .i64 w a0 n xs)(hb:n*8≤140737488355328) :
  Calls Tryz.prog 130 #[.slice a0 n c0,I4 k] w fun e w'=>(∃ a c,e=.returned (.slice a (min k.toNat n) c)∧Reads .i64 w' a (min k.toNat n) (Qcf xs k)∧(a=none→c=0)∧min k.toNat n≤c)∧Bw w w':=by
 obtain⟨i0,hi,hz0,hz1,hz2⟩:=info_parts Qmr
 have hm:=h0.max
 have hl:=h0.len
 obtain⟨M,eM⟩:∃ M,min k.toNat n=M:=⟨_,rfl⟩
 rw[eM]
 have fin:=fun (W:World) (v:Value) (h:W.ownsRow w.heap.size 3 1 v M (gath (placeF xs) .i64 M))=>Qkf (xs:=xs) (k:=k) (by omega) (by omega) h
 have hord:=Qbc xs
 rw[hl] at hord
 go_enter Tryz.func130,Tryz.ntmps130
 go_wp2
 go_loopw [5,6] (fun v i wr=>∃ q:Nat,q≤M∧i=I4 q∧Bw w wr∧wr.ownsRow w.heap.size 3 1 v q (gath (placeF xs) .i64 q)) (fun _ i _=>M-(intOf i).toNat)
 case atStart=>exact⟨0,Nat.zero_le _,rfl,Below.refl _ _,World.ownsRow_nil _ _ _ _⟩
 case round =>
  obtain⟨q,hq,rfl,hbr,ho⟩:=hrel
  by_cases hlt:q<M
  ·have t1:(q:Int)<(n:Int):=by omega
   have t2:(q:Int)<k:=by omega
   have hqn:q<n:=by omega
   have hs:=hord.lt hqn
   have hri:=fun i (hi:i<n)=>hord.rank_iff (i:=i) (k:=q) hi hqn
   have hF:Hid (placeF xs q=((QaX xs).getD q 0:Nat)):=show placeF xs q=_ from rfl
   obtain⟨s,es⟩:∃ s,(QaX xs).getD q 0=s:=⟨_,rfl⟩
   rw[es] at hs hri hF
   have Hbr:Hid (Bw w wr):=hbr
   have Ho:Hid (wr.ownsRow w.heap.size 3 1 u5 q (gath (placeF xs) .i64 q)):=ho
   clear es ho hbr
   go_wp2
   go_loopw [5,7] (fun v i wr=>∃ r C:Nat,r≤n∧i=I4 r∧Bw w wr∧((s<r∧C=q+1)∨(r≤s∧C=q))∧wr.ownsRow w.heap.size 3 1 v C (gath (placeF xs) .i64 C)) (fun _ i _=>n-(intOf i).toNat)
   case atStart=>exact⟨0,q,Nat.zero_le _,rfl,Hbr.out,.inr ⟨Nat.zero_le _,rfl⟩,Ho.out⟩
   case round =>
    obtain⟨r,C,hr,rfl,hbr,hC,ho⟩:=hrel
    by_cases hrn:r<n
    ·have kr:=Qji a0 n c0 xs r wr (h0.below hbr) hrn
     have hri':=hri r hrn
     have hR:=QgR xs n r
     obtain⟨R,eR⟩:∃ R,rankTo xs n r=R:=⟨_,rfl⟩
     rw[eR] at kr hri' hR
     clear eR hri
     by_cases hrs:s=r
     ·have e1:R=q:=hri'.2 hrs
      subst e1
      obtain rfl:C=R:=by omega
      have hz:Hid ((r:Int)=placeF xs C):=show (r:Int)=placeF xs C by rw[hF.out,hrs]
      have hsz:=hbr.size
      have hsr:s<r+1:=by omega
      clear hri' hC hF hrs
      go_wp2_with (first
       | (go_at_call 145;refine kr.mono ?_;rintro e W2 ⟨rfl,hw2⟩;replace hbr:=bDr hbr hw2;replace ho:=oBe ho (bDr bR hw2);have hsz2:=hbr.size;clear hw2)
       | (at_builtin;refine wpList_append_own _ rfl (.tmp 30) (.tmp 32) 45 rfl w.heap.size 3 i0 (I4 0) 1 8 Tryz.underlying45 hi hz0 hz1 hz2 rfl (by decide) _ _ _ rfl (ho.alloc _) ⟨_,0,none⟩ 1 1 [I4 (r:Nat)] rfl rfl (Qai _ _ _) (oOc _ _) (by unfold maxLen;omega) (by omega) (by simp;omega) ?_;intro v' w1 ho' hg _))
      go_roundw
      case rel =>
       have st:=aSt hsz2 hz.out hbr ho ho' hg
       exact⟨r+1,C+1,by omega,by go_num,st.1,.inl ⟨hsr,rfl⟩,st.2⟩
      case measure=>simp[intOf];omega
     ·have e1:¬R=q:=fun h=>hrs (hri'.1 h)
      have e2:¬(R:Int)=(q:Int):=by omega
      have HC:Hid ((s<r+1∧C=q+1)∨(r+1≤s∧C=q)):=show (s<r+1∧C=q+1)∨(r+1≤s∧C=q) by omega
      clear hri' hC hF
      go_wp2_with (first
       | (go_at_call 145;refine kr.mono ?_;rintro e W2 ⟨rfl,hw2⟩;replace hbr:=bDr hbr hw2;replace ho:=oBe ho (bDr bR hw2);clear hw2))
      go_roundw
      case rel=>exact⟨r+1,C,by omega,by go_num,hbr,HC.out,ho⟩
      case measure=>simp[intOf];omega
    ·have e:r=n:=by omega
     subst e
     obtain rfl:C=q+1:=by omega
     clear hC hF hri
     go_wp2
     go_roundw
     case rel=>exact⟨q+1,by omega,by go_num,hbr,ho⟩
     case measure=>simp[intOf];omega
  ·have e:q=M:=by omega
   subst e
   obtain⟨a,c,rfl,R⟩:=fin _ _ ho
   clear fin ho hord
   by_cases hqn:q<n
   ·have t1:(q:Int)<(n:Int):=by omega
    have t2:¬(q:Int)<k:=by omega
    clear eM
    go_wp2
    go_ret
    exact⟨⟨_,_,rfl,R⟩,hbr⟩
   ·have t1:¬(q:Int)<(n:Int):=by omega
    clear eM
    go_wp2
    go_ret
    exact⟨⟨_,_,rfl,R⟩,hbr⟩
end Go.Proofs.YthliomlmhfjhnaaGreat

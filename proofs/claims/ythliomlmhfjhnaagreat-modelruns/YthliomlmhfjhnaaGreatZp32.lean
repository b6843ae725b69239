/- Texts put together. -/
import Derived.Test.YthliomlmhfjhnaaGreatZp27
import Derived.Test.YthliomlmhfjhnaaGreatZp23
import Derived.Test.YthliomlmhfjhnaaGreatZp22
namespace Go.Proofs.YthliomlmhfjhnaaGreat
set_option maxRecDepth 20000
set_option maxHeartbeats 16000000
open Go.ChangeShapes Go.WideShapes Go.ChangeAt Go.RowKit
set_option linter.unusedVariables false
set_option linter.unusedSimpArgs false
theorem Qjn (x:Addr)(N c0 H:Nat)(q:List Int)(a1:Option Addr)(n c1:Nat)(A:Nat→Option Addr)(C:Nat→Nat)(K:Nat→List Int)(a2:Option Addr)(c2:Nat)(A':Nat→Option Addr)(C':Nat→Nat)(V:Nat→List Int)(w:World)
  (h0:Reads .i64 w (some x) N q) (l0:N≤c0) (h1:Grid w a1 n A C K) (hC:∀ r,r<n→(K r).length≤C r) (h2:Grid w a2 n A' C' V) (hC':∀ r,r<n→(V r).length≤C' r) (hH:0<H) (hN:0<N) (hn:0<n) (hmod:N%H=0) (hr:∀ r,r<n→(K r).length=N∧(V r).length=N)
  (hb0:N*8≤140737488351232) (hb1:n*24≤140737488351232) :
  Calls Tryz.prog 69 #[.slice (some x) N c0,.slice a1 n c1,.slice a2 n c2,I4 H] w fun e w'=>(∃ a c,e=.returned (.tuple #[.slice a N c,I4 0])∧Reads .i64 w' a N (allL q K V (N/H) n H)∧N≤c)∧Bw w w':=by
 obtain⟨i0,hi,hz0,hz1,hz2⟩:=info_parts QaT
 have hm:=h0.max
 have kf:=Qff (some x) N c0 a1 n c1 A C K a2 c2 A' C' V w h1 h2 hN hn hr
 obtain⟨d,ed⟩:∃ d,N/H=d:=⟨_,rfl⟩
 have ed':(N:Int)/(H:Int)=(d:Int):=by rw[←ed];simp
 have er':(N:Int)%(H:Int)=0:=by omega
 have eH:H*d=N:=by rw[←ed,Nat.mul_comm];exact Nat.div_mul_cancel (Nat.dvd_of_mod_eq_zero hmod)
 rw[ed]
 have d0:0<d:=by
  rcases Nat.eq_zero_or_pos d with r|r
  ·subst r;simp at eH;omega
  ·exact r
 have hdn9q:d≤N:=by rw[←ed];exact Nat.div_le_self _ _
 have hHN:H≤N:=by rw[←eH];exact Nat.le_mul_of_pos_right _ d0
 clear ed hmod
 have z:((H:Int)==0)=false:=by simp;omega
 go_enter Tryz.func69,Tryz.ntmps69
 go_wp2_with (first
  | (go_at_call 107;refine kf.mono ?_;rintro e w' ⟨rfl,h⟩;obtain rfl:=h.symm;clear kf))
 go_loopw [11,12] (fun v i wr=>∃ k:Nat,k≤H∧i=I4 k∧Bw w wr∧wr.ownsRow w.heap.size 2 1 v (k*d) ((allL q K V d n k).map (Value.int .i64))) (fun _ i _=>H-(intOf i).toNat)
 case atStart=>exact⟨0,Nat.zero_le _,rfl,Below.refl _ _,by simpa [allL] using World.ownsRow_nil w w.heap.size 2 1⟩
 case round =>
  obtain⟨k,hk,rfl,hbr,ho⟩:=hrel
  by_cases hlt:k<H
  ·have hq:=QgU eH hlt
   have hr0:=(h0.below hbr).cut (k*d) d hq
   have kk:=fun (W:World) (hb:Bw wr W)=>QeI a1 n c1 A C K (k*d) d W ((h1.below hbr).below hb) hC d0 (fun r h=>by rw[(hr r h).1];exact hq) hb1
   have kv:=fun (W:World) (hb:Bw wr W)=>QeI a2 n c2 A' C' V (k*d) d W ((h2.below hbr).below hb) hC' d0 (fun r h=>by rw[(hr r h).2];exact hq) hb1
   have lk:∀ r,r<n→(cutR K (k*d) d r).length=d∧(cutR V (k*d) d r).length=d:=fun r h=>⟨QaV _ _ _ _ (by rw[(hr r h).1];exact hq),QaV _ _ _ _ (by rw[(hr r h).2];exact hq)⟩
   have es:allL q K V d n (k+1)=allL q K V d n k++QcA ((q.drop (k*d)).take d) (cutR K (k*d) d) (cutR V (k*d) d) d n:=rfl
   have ek:(k+1)*d=k*d+d:=Nat.succ_mul k d
   have eki:(k:Int)*(d:Int)=((k*d:Nat):Int):=by simp
   have eki':((k:Int)+1)*(d:Int)=((k*d+d:Nat):Int):=by rw[←ek];simp
   obtain⟨qs,eq⟩:∃ qs,(q.drop (k*d)).take d=qs:=⟨_,rfl⟩
   rw[eq] at hr0 es
   obtain⟨P,eP⟩:∃ P,k*d=P:=⟨_,rfl⟩
   simp only[eP] at kk kv lk
   rw[eP] at hr0 hq ek ho es eki eki'
   obtain⟨Q,eQ⟩:∃ Q,P+d=Q:=⟨_,rfl⟩
   rw[eQ] at eki'
   have eQ2:Q-P=d:=by omega
   have hQ:Q≤c0:=by omega
   have hQN:Q≤N:=by omega
   have hP:P<Q:=by omega
   have hPc:¬c0=P:=by omega
   have kh:=fun (W:World) cq b c e f (h0:Reads .i64 W (some (x.add P)) d qs) (h1:Grid W b n (cutA A P) (fun r=>C r-P) (cutR K P d)) (h2:Grid W e n (cutA A' P) (fun r=>C' r-P) (cutR V P d))=>Qh0 (some (x.add P)) d cq qs b n c (cutA A P) (fun r=>C r-P) (cutR K P d) e f (cutA A' P) (fun r=>C' r-P) (cutR V P d) W h0 h1 h2 d0 hn lk (by omega) (by omega)
   have Es:Hid (allL q K V d n (k+1)=allL q K V d n k++QcA qs (cutR K P d) (cutR V P d) d n):=es
   have Ek:Hid ((k+1)*d=P+d):=ek
   obtain⟨O,eO⟩:∃ O,QcA qs (cutR K P d) (cutR V P d) d n=O:=⟨_,rfl⟩
   rw[eO] at Es
   simp only[eO] at kh
   have hPN:P<N:=by omega
   clear eq eP es ek eH eO lk hC hC' hr h0 h1 h2 eQ
   go_wp2
   refine Qlj x N c0 n c1 c2 P Q d k a1 a2 A A' C C' K V O (fun W=>Bw wr W) (by kernel_rfl) rfl (by (repeat' apply And.intro)<;>exact⟨_,rfl,rfl,rfl,rfl,by kernel_rfl⟩) bR.drew (Qd6 _ _ _ eki (by omega) (by omega)) (Ql0 _ _ (by omega) (by omega)) (Qd6 _ _ _ eki' (by omega) (by omega)) (QkB x N c0 P Q d hP hQ eQ2) (Qd6 _ _ _ eki (by omega) (by omega)) (fun W hb=>(kk W hb).mono fun e w' ⟨⟨b,j,h1,h2⟩,h3⟩=>⟨b,j,h1,h2,h3,bTn hb h3⟩) (Qd6 _ _ _ eki (by omega) (by omega)) (fun W hb=>(kv W hb).mono fun e w' ⟨⟨b,j,h1,h2⟩,h3⟩=>⟨b,j,h1,h2,h3,bTn hb h3⟩) (fun W hb b j b' j' g1 g2=>(kh W _ b j b' j' (hr0.below hb) g1 g2).mono fun e w' ⟨⟨b,j,h1,h2,h3⟩,h4⟩=>⟨b,j,h1,h2,h3,h4,bTn hb h4⟩) rfl rfl rfl rfl rfl (Nat.le_of_ble_eq_true rfl) ?_
   intro a W9 hs hd hkp hS9 hval
   have e14:a.tmps.getD 14 undef=I4 0:=hval 26 14 (by decide) rfl
   obtain⟨b9,j9,e13,f13,z13⟩:=hval 25 13 (by decide) rfl
   obtain⟨f,ef,ep⟩:=fPz [39,40,41,42,43,44,45,46,47,48,49,50,51,52,53,54,55,56,57,58,59,60,38,61,62,13,14] rfl hs hd hkp
   simp only[ef] at e14 e13
   simp only[List.foldl,e14,e13,Act.put,List.setIfInBounds_toArray,List.set_cons_succ,List.set_cons_zero] at ep
   have H9:=hdn hS9
   clear hs hd hkp hval hS9 e14 e13 ef
   subst ep
   have cur:Bw wr W9:=H9.out
   have ho9:=oBe ho cur
   have hb9:=bTn hbr cur
   have hsz:=hb9.size
   clear H9 cur kk kv kh ho hbr hr0
   go_wp2_with (at_builtin;refine Qav rfl (.tmp 63) (.tmp 64) 34 rfl w.heap.size 2 i0 (I4 0) 8 Tryz.underlying34 hi hz0 hz1 hz2 rfl _ P _ rfl ho9 .i64 b9 d j9 _ rfl f13 z13 (by unfold maxLen;omega) (by omega) hsz ?_;intro v1 W5 ho3 hg3;have R:=And.intro (below_append hb9 ho9 hg3) ho3;clear ho3 hg3 ho9)
   go_roundw
   case rel=>exact⟨k+1,by omega,by go_num,R.1,by rw[Ek.out,Es.out,List.map_append];exact R.2⟩
   case measure=>simp[intOf];omega
  ·have e:k=H:=by omega
   subst e
   rw[eH] at ho
   have fin:=oRe (zs:=allL q K V d n k) ho (by rw[Qca,eH]) (Qkb _ _ _ _ _ _) (fun j hj=>QbR _ _ _ (by rw[Qca,eH];exact hj))
   obtain⟨a,c,rfl,hr⟩:=fin
   have hn:=QaL ho
   clear ho
   go_wp2
   go_ret2
   exact⟨⟨_,_,rfl,hr,hn⟩,hbr⟩
end Go.Proofs.YthliomlmhfjhnaaGreat

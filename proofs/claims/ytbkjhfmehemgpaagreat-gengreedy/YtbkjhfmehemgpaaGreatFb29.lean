/- Texts put together. -/
import Derived.Test.YtbkjhfmehemgpaaGreatFb2
import Derived.Test.YtbkjhfmehemgpaaGreatFb19
import Derived.Test.YtbkjhfmehemgpaaGreatFb21
namespace Go.Proofs.YtbkjhfmehemgpaaGreat
set_option maxRecDepth 20000
set_option maxHeartbeats 16000000
open Go.ChangeShapes Go.WideShapes Go.ChangeAt Go.RowKit
set_option linter.unusedVariables false
set_option linter.unusedSimpArgs false
theorem route_yes (a0:Option Addr)(n0 c0:Nat)(ro:List Int)(E k:Int)(a3:Option Addr)(n3 c3:Nat)(xs:List Int)(w:World)(h0:Reads .i8 w a0 n0 ro)(l0:n0≤c0)(h3:Reads .i64 w a3 n3 xs)(wE:(Lit.int .i64 E).wf=true)(wk:(Lit.int .i64 k).wf=true)(b0:n0*8≤140737488355328)(hf:routeB ro E k xs=true) :
  Calls Tryz.prog 228 #[.slice a0 n0 c0,.int .i64 E,.int .i64 k,.slice a3 n3 c3] w fun e w'=>(∃ ap cp aq cq,e=.returned (.tuple #[.slice ap k.toNat cp,.slice aq k.toNat cq])∧Reads .i64 w' ap k.toNat (routeP ro k xs)∧Reads .i64 w' aq k.toNat (routeS ro k xs))∧Below w.heap.size w w':=by
 obtain⟨i0,hi,hz0,hz1,hz2⟩:=info_parts info2
 have hb':(decide (1≤k) && decide (k≤E) && fitB ro.length E xs.length)=true:=hf
 simp only[Bool.and_eq_true,decide_eq_true_eq] at hb'
 obtain⟨⟨hk1,hk2⟩,f1⟩:=hb'
 have hlt:=fun j (h:j<k.toNat)=>plc_lt hf h
 have hat:=fun j (h:j<k.toNat)=>routeP_at hf h
 rw[h0.len,h3.len] at f1
 have eE:=(fitB_yes f1).2.2
 have hle:=Nat.div_le_self n0 n3
 have hm3:=h3.max
 obtain⟨R,eR⟩:∃ R,n0/n3=R:=⟨_,rfl⟩
 have em:(matL ro xs).length=R:=by rw[matL_length,h0.len,h3.len,eR]
 obtain⟨K,eK⟩:∃ K,k.toNat=K:=⟨_,rfl⟩
 obtain rfl:k=(K:Int):=by omega
 have eKR:min (K:Int).toNat R=K:=by omega
 have KR:K≤R:=by omega
 have ekn:(K:Int).toNat=K:=rfl
 have ku:=mat_yes a0 n0 c0 ro E a3 n3 c3 xs w h0 l0 h3 f1 b0
 rw[eR] at ku hle eE
 have kt:=fun (W:World) p (h:Reads .i64 W p R (matL ro xs))=>top_call p R R (matL ro xs) (K:Int) W h (by omega)
 have hat':∀ j,j<K→(pickZ (matL ro xs) (K:Int)).getD j 0=((plc ro xs j:Nat):Int):=fun j h=>hat j (by omega)
 have hlt':∀ j,j<K→plc ro xs j<R:=fun j h=>by have:=hlt j (by omega);omega
 show Calls _ _ _ _ (fun e w'=>(∃ ap cp aq cq,e=.returned (.tuple #[.slice ap (K:Int).toNat cp,.slice aq (K:Int).toNat cq])∧Reads .i64 w' ap (K:Int).toNat (pickZ (matL ro xs) (K:Int))∧Reads .i64 w' aq (K:Int).toNat (softZ (chosenL ro (K:Int).toNat xs) (K:Int).toNat))∧Below w.heap.size w w')
 rw[eKR] at kt
 rw[ekn]
 have Em:=hdn (And.intro em eKR)
 clear hat hlt hf f1 eR eK em eKR eE ekn
 go_enter Tryz.func228,Tryz.ntmps228
 go_wp2_with (first
  | (go_at_call 226;refine (need_yes _ _).mono ?_;rintro e w' ⟨rfl,hq⟩;obtain rfl:=hq.symm)
  | (go_at_call 157;refine ku.mono ?_;rintro e w1 ⟨⟨cs0,rfl,hr1,-,-⟩,hb1⟩)
  | (go_at_call 239;refine (must_yes _ _ _ _).mono ?_;rintro e w' ⟨rfl,hq⟩;obtain rfl:=hq.symm)
  | (go_at_call 124;refine (kt w1 _ hr1).mono ?_;rintro e w2 ⟨⟨ap,cp,rfl,hr2,-,-⟩,hb2⟩;replace hr1:=hr1.below hb2;have hbw:=bTn hb1 hb2;clear hb1 hb2)
  | (at_make;refine wpList_make_full _ rfl (.tmp 34) (.tmp 34) 70 rfl w2.heap.size 2 i0 (.int .i64 0) 1 Tryz.underlying70 hi hz0 hz1 .i64 .i64 _ _ K rfl rfl rfl rfl (by rw[hz2];omega) (by unfold maxLen;omega) (Nat.le_refl _) ?_;intro w3 hown hgrow))
 have hb3:Below w2.heap.size w2 w3:=(Below.refl _ _).grown hgrow (Nat.le_refl _) (fun k h=>by cases h)
 clear ku kt
 go_wp2
 go_loopw [38] (fun i wr=>∃ j:Nat,j≤K∧i=.int .i64 j∧Below w2.heap.size w2 wr∧∃ cs,wr.ownsRow w2.heap.size 2 1 (.slice (some ⟨w2.heap.size,0,none⟩) K K) K cs∧∀ i,i<j→cs[i]? = some (.int .i64 ((matL ro xs).getD (plc ro xs i) 0))) (fun i _=>K-(intOf i).toNat)
 case atStart=>exact⟨0,Nat.zero_le _,rfl,hb3,_,hown,fun j hj=>by omega⟩
 case round =>
  obtain⟨j,hj,rfl,hbr,cs,ho,hcs⟩:=hrel
  by_cases hlt:j<K
  ·have hlen:=oLe ho
   obtain⟨x,rfl⟩:=hr2.some_ (by omega)
   have cx:=(hr2.below hbr).cell x rfl j hlt
   rw[hat' j hlt] at cx
   have pj:=hlt' j hlt
   have cy:=(hr1.below hbr).cell _ rfl (plc ro xs j) pj
   have cell:wr.cell? ⟨w2.heap.size,j,none⟩=cs[j]?:=ho.cellAt j (by omega)
   obtain⟨u,hu⟩:∃ u,cs[j]? = some u:=⟨cs[j],by simp[hlen,hlt]⟩
   rw[hu] at cell
   have froz:=ho.frozenAt j
   obtain⟨p,ep⟩:∃ p,plc ro xs j=p:=⟨_,rfl⟩
   obtain⟨Z,eZ⟩:∃ Z,(matL ro xs).getD (plc ro xs j) 0=Z:=⟨_,rfl⟩
   have R':=hdn (And.intro (hbr.setCell (p:=⟨w2.heap.size,j,none⟩) (Nat.le_refl _) (.int .i64 Z)) (And.intro (ho.stored j (.int .i64 Z)).1 (set_step (F:=fun i=>Value.int .i64 ((matL ro xs).getD (plc ro xs i) 0)) hlen hlt (show Value.int .i64 Z=.int .i64 ((matL ro xs).getD (plc ro xs j) 0) by rw[eZ]) hcs)))
   rw[eZ] at cy
   rw[ep] at cx cy pj
   rw[Addr.add_lit,Nat.zero_add] at cy
   clear eZ ep ho hcs hu hlen hbr hown hgrow hb3 hr1 hr2 hat' hlt'
   go_wp2
   go_roundw
   case rel=>exact⟨j+1,by omega,by go_num,R'.out.1,_,R'.out.2.1,R'.out.2.2⟩
   case measure=>simp[intOf];omega
  ·have e:j=K:=by omega
   subst e
   have hr3:Reads .i64 wr (some ⟨w2.heap.size,0,none⟩) j (chosenL ro j xs):=oRa ho (by simp[chosenL]) (fun z hz=>by
    obtain⟨y,_,rfl⟩:=List.mem_map.1 hz
    have:=matL_bounds ro xs (plc ro xs y)
    exact WalkArith.wf_i64 ⟨by omega,by omega⟩) (fun i hi=>by rw[hcs i hi];simp[chosenL,List.getD,hi])
   have ks:=soft_call (some ⟨w2.heap.size,0,none⟩) j j (chosenL ro j xs) wr hr3 (by omega)
   replace hr2:=hr2.below hbr
   have hbw':=bTn hbw hbr
   clear hcs ho hown hgrow hb3 hr3
   go_wp2_with (go_at_call 125;refine ks.mono ?_;rintro e w4 ⟨⟨aq,cc,rfl,hr4⟩,hb4⟩)
   go_ret2
   exact⟨⟨_,_,_,_,rfl,hr2.below hb4,hr4⟩,bTn hbw' hb4⟩
end Go.Proofs.YtbkjhfmehemgpaaGreat

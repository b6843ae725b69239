/- Texts put together. -/
import Derived.Test.YthliomlmhfjhnaaGreatZs15
import Derived.Test.YthliomlmhfjhnaaGreatZs14
import Derived.Test.YthliomlmhfjhnaaGreatZs18
namespace Go.Proofs.YthliomlmhfjhnaaGreat
set_option maxRecDepth 20000
set_option maxHeartbeats 16000000
open Go.ChangeShapes Go.WideShapes Go.ChangeAt Go.RowKit
set_option linter.unusedVariables false
set_option linter.unusedSimpArgs false
theorem refRoute_yes (a0:Option Addr)(n0 c0:Nat)(ro:List Int)(E k:Int)(a3:Option Addr)(n3 c3:Nat)(xs:List Int)(w:World)(h0:Reads .i8 w a0 n0 ro)(l0:n0≤c0)(h3:Reads .i64 w a3 n3 xs)(wE:(Lit.int .i64 E).wf=true)(wk:(Lit.int .i64 k).wf=true)(b0:n0*8≤140737488355328)(hf:routeB ro E k xs=true) :
  Calls Tryz.prog 111 #[.slice a0 n0 c0,.int .i64 E,.int .i64 k,.slice a3 n3 c3] w fun e w'=>(∃ ap cp aq cq,e=.returned (.tuple #[.slice ap k.toNat cp,.slice aq k.toNat cq,.int .i64 0])∧Reads .i64 w' ap k.toNat (routeP ro k xs)∧Reads .i64 w' aq k.toNat (routeS ro k xs))∧Below w.heap.size w w':=by
 obtain⟨i0,hi,hz0,hz1,hz2⟩:=info_parts info2
 have hb':(decide (1≤k) && decide (k≤E) && fitB ro.length E xs.length)=true:=hf
 simp only[Bool.and_eq_true,decide_eq_true_eq] at hb'
 obtain⟨⟨hk1,hk2⟩,f1⟩:=hb'
 have hlt:=fun j (h:j<k.toNat)=>plc_lt hf h
 have hat:=fun j (h:j<k.toNat)=>routeP_at hf h
 rw[h0.len,h3.len] at f1
 have eE:=(fitB_yes f1).2.2
 have hle:=Nat.div_le_self n0 n3
 have hm3:=h3.max
 obtain⟨R,eR⟩:∃ R,n0/n3=R:=⟨_,rfl⟩
 have em:(matL ro xs).length=R:=by rw[matL_length,h0.len,h3.len,eR]
 obtain⟨K,eK⟩:∃ K,k.toNat=K:=⟨_,rfl⟩
 obtain rfl:k=(K:Int):=by omega
 have eKR:min (K:Int).toNat R=K:=by omega
 have KR:K≤R:=by omega
 have ekn:(K:Int).toNat=K:=rfl
 have ku:=refMat_yes a0 n0 c0 ro E a3 n3 c3 xs w h0 l0 h3 f1 b0
 rw[eR] at ku hle eE
 have kt:=fun (W:World) p q (h:Reads .i64 W p R (matL ro xs))=>refTop_call p R q (matL ro xs) (K:Int) W h (by omega)
 have hat':∀ j,j<K→(pickZ (matL ro xs) (K:Int)).getD j 0=((plc ro xs j:Nat):Int):=fun j h=>hat j (by omega)
 have hlt':∀ j,j<K→plc ro xs j<R:=fun j h=>by have:=hlt j (by omega);omega
 show Calls _ _ _ _ (fun e w'=>(∃ ap cp aq cq,e=.returned (.tuple #[.slice ap (K:Int).toNat cp,.slice aq (K:Int).toNat cq,.int .i64 0])∧Reads .i64 w' ap (K:Int).toNat (pickZ (matL ro xs) (K:Int))∧Reads .i64 w' aq (K:Int).toNat (softZ (chosenL ro (K:Int).toNat xs) (K:Int).toNat))∧Below w.heap.size w w')
 rw[eKR] at kt
 rw[ekn]
 have Em:=hdn (And.intro em eKR)
 have hn1:¬(K:Int)<1:=by omega
 have hn2:¬E<(K:Int):=by omega
 clear hat hlt hf f1 eR eK em eKR eE ekn
 go_enter Tryz.func111,Tryz.ntmps111
 go_wp2_with (first
  | (go_at_call 51;refine ku.mono ?_;rintro e w1 ⟨⟨a1,c1,rfl,hr1,-⟩,hb1⟩)
  | (go_at_call 130;refine (kt w1 _ _ hr1).mono ?_;rintro e w2 ⟨⟨ap,cp,rfl,hr2,-,-⟩,hb2⟩;replace hr1:=hr1.below hb2;have hbw:=bTn hb1 hb2;clear hb1 hb2))
 clear ku kt
 go_loopw [14,15] (fun v i wr=>∃ j:Nat,j≤K∧i=.int .i64 j∧Below w2.heap.size w2 wr∧wr.ownsRow w2.heap.size 2 1 v j (gath (fun i=>(matL ro xs).getD (plc ro xs i) 0) .i64 j)) (fun _ i _=>K-(intOf i).toNat)
 case atStart=>exact⟨0,Nat.zero_le _,rfl,Below.refl _ _,World.ownsRow_nil _ _ _ _⟩
 case round =>
  obtain⟨j,hj,rfl,hbr,ho⟩:=hrel
  by_cases hlt:j<K
  ·obtain⟨x,rfl⟩:=hr2.some_ (by omega)
   obtain⟨y,rfl⟩:=hr1.some_ (by omega)
   have cx:=(hr2.below hbr).cell x rfl j hlt
   rw[hat' j hlt] at cx
   have pj:=hlt' j hlt
   have cy:=(hr1.below hbr).cell y rfl (plc ro xs j) pj
   have hsz:=hbr.size
   obtain⟨p,ep⟩:∃ p,plc ro xs j=p:=⟨_,rfl⟩
   obtain⟨Z,eZ⟩:∃ Z,(matL ro xs).getD (plc ro xs j) 0=Z:=⟨_,rfl⟩
   have Ev:Hid (Z=(matL ro xs).getD (plc ro xs j) 0):=eZ.symm
   rw[eZ] at cy
   rw[ep] at cx cy pj
   clear eZ ep hr1 hr2 hat' hlt'
   go_wp2_with (at_builtin;refine wpList_append_own _ rfl (.tmp 42) (.tmp 50) 34 rfl w2.heap.size 2 i0 (.int .i64 0) 1 8 Tryz.underlying34 hi hz0 hz1 hz2 rfl (by decide) _ _ _ rfl (World.ownsRow.alloc (w:=wr) ho _) ⟨_,0,none⟩ 1 1 [.int .i64 Z] rfl rfl (one_new _ _ _) (oOc _ _) (by unfold maxLen;omega) (by omega) (by simp;omega) ?_;intro v' w1' ho' hg _)
   go_roundw
   case rel=>exact⟨j+1,by omega,by go_num,aSt (wr:=wr) hsz Ev.out hbr ho ho' hg⟩
   case measure=>simp[intOf];omega
  ·have e:j=K:=by omega
   subst e
   have fin:=oRe (zs:=chosenL ro j xs) ho (by simp[chosenL]) (fun z hz=>by
    obtain⟨y,_,rfl⟩:=List.mem_map.1 hz
    have:=matL_bounds ro xs (plc ro xs y)
    exact WalkArith.wf_i64 ⟨by omega,by omega⟩) (fun i hi=>by rw[gath_at _ _ _ _ hi];simp[chosenL,List.getD,hi])
   obtain⟨a3',c3',rfl,hr3⟩:=fin
   have ks:=refSoft_call a3' j c3' (chosenL ro j xs) wr hr3 (by omega)
   replace hr2:=hr2.below hbr
   have hbw':=bTn hbw hbr
   clear ho hr3
   go_wp2_with (go_at_call 128;refine ks.mono ?_;rintro e w4 ⟨⟨aq,cc,rfl,hr4⟩,hb4⟩)
   refine bodyPost_ret (by simp[results,Tryz.results111];rfl) rfl ?_
   exact⟨⟨_,_,_,_,rfl,hr2.below hb4,hr4⟩,bTn hbw' hb4⟩
end Go.Proofs.YthliomlmhfjhnaaGreat

/- Texts put together. -/
import Derived.Test.YthliomlmhfjhnaaGreatZs11
import Derived.Test.YthliomlmhfjhnaaGreatZs7
import Derived.Lib.QuietBelow
namespace Go.Proofs.YthliomlmhfjhnaaGreat
set_option maxRecDepth 20000
set_option maxHeartbeats 16000000
open Go.ChangeShapes Go.WideShapes Go.ChangeAt Go.RowKit
set_option linter.unusedVariables false
set_option linter.unusedSimpArgs false
theorem grrefMat_fits (a0:Option Addr)(n c0:Nat)(ws:List Int)(R:Nat)(a2:Option Addr)(d c2:Nat)(xs:List Int)(w:World)
  (h0:Reads .i8 w a0 n ws) (hc:n≤c0) (h2:Reads .i64 w a2 d xs) (hd:0<d) (hn:n=R*d) (hb:R*8≤140737488355328) :
  Calls Tryz.prog 51 #[.slice a0 n c0,.int .i64 R,.slice a2 d c2] w fun e w'=>(∃ a c,e=.returned (.tuple #[.slice a R c,.int .i64 0])∧Reads .i64 w' a R ((List.range R).map (rowZ ws d xs)))∧Below w.heap.size w w':=by
 obtain⟨i0,hi,hz0,hz1,hz2⟩:=info_parts info2
 have hm:=h0.max
 have hm2:=h2.max
 have e1:(n:Int)%(d:Int)=0:=by rw[←Int.natCast_emod,hn];simp
 have e2:(n:Int)/(d:Int)=R:=by rw[←Int.natCast_ediv,hn,Nat.mul_div_cancel R hd]
 have e3:((d:Int)==0)=false:=by simp;omega
 have Hn:Hid (n=R*d):=hn
 clear hn
 go_enter Tryz.func51,Tryz.ntmps51
 go_wp2
 clear e1 e2 e3
 go_loopw [8,9] (fun v i wr=>∃ k:Nat,k≤R∧i=.int .i64 k∧Below w.heap.size w wr∧wr.ownsRow w.heap.size 2 1 v k (gath (rowZ ws d xs) .i64 k)) (fun _ i _=>R-(intOf i).toNat)
 case atStart=>exact⟨0,Nat.zero_le _,rfl,Below.refl _ _,World.ownsRow_nil _ _ _ _⟩
 case round =>
  obtain⟨k,hk,rfl,hbr,ho⟩:=hrel
  by_cases hlt:k<R
  ·obtain⟨p,ep⟩:∃ p,k*d=p:=⟨_,rfl⟩
   have eq:(k+1)*d=p+d:=by rw[Nat.add_mul,ep];omega
   have hq:p+d≤n:=by rw[Hn.out,←eq];exact Nat.mul_le_mul_right d (by omega)
   have ip:(k:Int)*(d:Int)=(p:Int):=by rw[←ep];simp
   have iq:((k:Int)+1)*(d:Int)=((p+d:Nat):Int):=by rw[←eq];simp
   obtain⟨q,eq'⟩:∃ q,p+d=q:=⟨_,rfl⟩
   rw[eq'] at iq
   have hr0:=h0.below hbr
   have hr2:=h2.below hbr
   obtain⟨x,rfl⟩:=h0.some_ (by omega)
   have hcut:=hr0.cut p d hq
   have eV:rowZ ws d xs k=dotZ ((ws.drop p).take d) xs 6:=by unfold rowZ;rw[ep]
   obtain⟨V,eV'⟩:∃ V,dotZ ((ws.drop p).take d) xs 6=V:=⟨_,rfl⟩
   have Ev:Hid (V=rowZ ws d xs k):=by show V=_;rw[eV,eV']
   have kp:Calls Tryz.prog 89 #[.slice (some (x.add p)) d (c0-p),.slice a2 d c2] wr fun e w'=>e=.returned (.tuple #[.int .i64 V,.int .i64 0])∧∃ m,w'=wr.drewN m:=by
    rw[←eV']
    exact refDot_same _ _ _ _ _ _ _ _ hcut hr2
   have hsub:q-p=d:=by omega
   have hne:¬c0=p:=by omega
   have hpq:(p:Int)≤(q:Int):=by omega
   have hqc:(q:Int)≤(c0:Int):=by omega
   have hqm:(q:Int)≤9223372036854775807:=by omega
   have hsz:=hbr.size
   clear eq eq' ep eV eV' hr0 hr2 hcut h0 h2
   go_wp2_with (first
    | (go_at_call 89;refine kp.mono ?_;rintro e w' ⟨rfl,m,rfl⟩)
    | (at_builtin;refine wpList_append_own _ rfl (.tmp 57) (.tmp 59) 34 rfl w.heap.size 2 i0 (.int .i64 0) 1 8 Tryz.underlying34 hi hz0 hz1 hz2 rfl (by decide) _ _ _ rfl (World.ownsRow.alloc (w:=wr.drewN m) ho _) ⟨_,0,none⟩ 1 1 [.int .i64 V] rfl rfl (one_new _ _ _) (oOc _ _) (by unfold maxLen;omega) (by omega) (by simp;omega) ?_;intro v' w1 ho' hg _))
   go_roundw
   case rel=>exact⟨k+1,by omega,by go_num,aSt (wr:=wr.drewN m) hsz Ev.out (bDr hbr ⟨m,rfl⟩) ho ho' hg⟩
   case measure=>simp[intOf];omega
  ·have e:k=R:=by omega
   subst e
   have fin:=oRe (zs:=(List.range k).map (rowZ ws d xs)) ho (by simp) (fun z hz=>by obtain⟨y,_,rfl⟩:=List.mem_map.1 hz;exact wCz _) (fun j hj=>by rw[gath_at _ _ _ _ hj];simp[hj])
   obtain⟨a,c,rfl,hr⟩:=fin
   clear ho
   go_wp2
   go_ret2
   exact⟨⟨_,_,rfl,hr⟩,hbr⟩
end Go.Proofs.YthliomlmhfjhnaaGreat

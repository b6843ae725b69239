/- Texts put together. -/
import Derived.Test.YthliomlmhfjhnaaGreatZp1
import Derived.Test.YthliomlmhfjhnaaGreatZp10
namespace Go.Proofs.YthliomlmhfjhnaaGreat
set_option maxRecDepth 20000
set_option maxHeartbeats 16000000
open Go.ChangeShapes Go.WideShapes Go.ChangeAt Go.RowKit
set_option linter.unusedVariables false
set_option linter.unusedSimpArgs false
abbrev fitP (n d:Nat)(r:Int):Prop:=0<d∧n%d=0∧((n/d:Nat):Int)=r
def lowL (za xs:List Int):List Int:=(List.range (za.length/xs.length)).map (rowZ za xs.length xs)
abbrev Qdl (za zb:List Int)(rank:Int)(xs:List Int):Prop:=fitP za.length xs.length rank∧fitP zb.length (za.length/xs.length) xs.length
def QjT (za zb:List Int)(rank:Int)(xs:List Int):Int:=if Qdl za zb rank xs then 0 else 21
def Qot (za zb xs:List Int)(shift:Int)(i:Nat):Int:=Qac (rowZ zb (za.length/xs.length) (lowL za xs) i) shift
def QdF (za zb:List Int)(rank shift:Int)(xs:List Int):List Int:=if Qdl za zb rank xs then (List.range xs.length).map (Qot za zb xs shift) else []
theorem QlD (a0:Option Addr)(na ca:Nat)(a1:Option Addr)(nb cb:Nat)(rank shift:Int)(a2:Option Addr)(d c2:Nat)(w:World)
  (k47:∀ W,Calls Tryz.prog 49 #[.slice a0 na ca,I4 rank,.slice a2 d c2] W fun e w'=>e=.returned (.tuple #[.slice none 0 0,I4 21])∧w'=W) :
  Calls Tryz.prog 94 #[.slice a0 na ca,.slice a1 nb cb,I4 rank,I4 shift,.slice a2 d c2] w fun e w'=>e=.returned (.tuple #[.slice none 0 0,I4 21])∧Bw w w':=by
 go_enter Tryz.func94,Tryz.ntmps94
 go_wp2_with (go_at_call 49;refine (k47 _).mono ?_;rintro e w' ⟨rfl,h⟩;obtain rfl:=h.symm)
 go_ret2
 exact⟨rfl,Below.refl _ _⟩
theorem QlC (a0:Option Addr)(na ca:Nat)(a1:Option Addr)(nb cb:Nat)(rank shift:Int)(a2:Option Addr)(d c2 R:Nat)(w:World)(hd:d≤9223372036854775807)
  (k47:∀ W,Bw w W→Calls Tryz.prog 49 #[.slice a0 na ca,I4 rank,.slice a2 d c2] W fun e w'=>(∃ a c,e=.returned (.tuple #[.slice a R c,I4 0]))∧Bw W w')
  (k47':∀ W a c,Calls Tryz.prog 49 #[.slice a1 nb cb,I4 d,.slice a R c] W fun e w'=>e=.returned (.tuple #[.slice none 0 0,I4 21])∧w'=W) :
  Calls Tryz.prog 94 #[.slice a0 na ca,.slice a1 nb cb,I4 rank,I4 shift,.slice a2 d c2] w fun e w'=>e=.returned (.tuple #[.slice none 0 0,I4 21])∧Bw w w':=by
 have hb:=Below.refl w.heap.size w
 go_enter Tryz.func94,Tryz.ntmps94
 go_wp2_with (first
  | (go_at_call_of 49 rank;refine (k47 _ hb).mono ?_;rintro e w1 ⟨⟨a,c,rfl⟩,h⟩;replace hb:=bTn hb h;clear h k47)
  | (go_at_call 49;refine (k47' _ a c).mono ?_;rintro e w' ⟨rfl,h⟩;obtain rfl:=h.symm))
 go_ret2
 exact⟨rfl,hb⟩
theorem QlB (a0:Option Addr)(na ca:Nat)(a1:Option Addr)(nb cb:Nat)(rank shift:Int)(a2:Option Addr)(d c2 R:Nat)(w:World)(ls:List Int)(rs:Nat→Int)(hd:d≤9223372036854775807)(hs:(Lit.int .i64 shift).wf=true)(hrs:∀ i,(Lit.int .i64 (rs i)).wf=true)
  (k47:∀ W,Bw w W→Calls Tryz.prog 49 #[.slice a0 na ca,I4 rank,.slice a2 d c2] W fun e w'=>(∃ a c,e=.returned (.tuple #[.slice a R c,I4 0])∧Reads .i64 w' a R ls)∧Bw W w')
  (k47':∀ W a c,Bw w W→Reads .i64 W a R ls→Calls Tryz.prog 49 #[.slice a1 nb cb,I4 d,.slice a R c] W fun e w'=>(∃ cs,e=.returned (.tuple #[.slice (some ⟨W.heap.size,0,none⟩) d d,I4 0])∧w'.ownsRow W.heap.size 2 1 (.slice (some ⟨W.heap.size,0,none⟩) d d) d cs∧∀ j,j<d→cs[j]? = some (I4 (rs j)))∧Bw W w') :
  Calls Tryz.prog 94 #[.slice a0 na ca,.slice a1 nb cb,I4 rank,I4 shift,.slice a2 d c2] w fun e w'=>∃ a c,e=.returned (.tuple #[.slice a d c,I4 0])∧Reads .i64 w' a d ((List.range d).map fun i=>Qac (rs i) shift)∧Bw w w':=by
 have hb:=Below.refl w.heap.size w
 go_enter Tryz.func94,Tryz.ntmps94
 go_wp2_with (first
  | (go_at_call_of 49 rank;refine (k47 _ hb).mono ?_;rintro e w1 ⟨⟨a,c,rfl,r1⟩,h⟩;replace hb:=bTn hb h;clear h k47)
  | (go_at_call 49;refine (k47' _ a c hb r1).mono ?_;rintro e w2 ⟨⟨cs,rfl,ho,hcs⟩,h⟩))
 have hs1:=hb.size
 have HB:=hdn hb
 clear hb k47' r1
 have HH:=hdn h
 clear h
 have HO:=hdn (And.intro ho hcs)
 clear ho hcs
 go_loopw [15,16,40] (fun _ _ i wr=>∃ k:Nat,k≤d∧i=I4 k∧Bw w1 wr∧∃ cs,wr.ownsRow w1.heap.size 2 1 (.slice (some ⟨w1.heap.size,0,none⟩) d d) d cs∧∀ j,j<d→cs[j]? = some (I4 (if j<k then Qac (rs j) shift else rs j))) (fun _ _ i _=>d-(intOf i).toNat)
 case atStart=>exact⟨0,Nat.zero_le _,rfl,HH.out,_,HO.out.1,fun j hj=>by rw[if_neg (by omega)];exact HO.out.2 j hj⟩
 case round =>
  obtain⟨k,hk,rfl,hbr,cs,ho,hcs⟩:=hrel
  by_cases hlt:k<d
  ·have hlen:=oLe ho
   have cell:wr.cell? ⟨w1.heap.size,k,none⟩=cs[k]?:=ho.cellAt k (by omega)
   rw[hcs k hlt,if_neg (by omega)] at cell
   have froz:=ho.frozenAt k
   have st:=fun v=>ho.stored k v
   have wk:=hrs k
   obtain⟨V,eV⟩:∃ V,rs k=V:=⟨_,rfl⟩
   rw[eV] at cell wk
   have kp:=shift_call V shift wk hs
   have R':Hid (Bw w1 (wr.setCell ⟨w1.heap.size,k,none⟩ (I4 (Qac V shift)))∧∃ cs',(wr.setCell ⟨w1.heap.size,k,none⟩ (I4 (Qac V shift))).ownsRow w1.heap.size 2 1 (.slice (some ⟨w1.heap.size,0,none⟩) d d) d cs'∧∀ j,j<d→cs'[j]? = some (I4 (if j<k+1 then Qac (rs j) shift else rs j))):=by
    refine⟨hbr.setCell nL _,_,(st _).1,fun j hj=>?_⟩
    by_cases e:j=k
    ·subst e
     rw[if_pos (by omega),eV]
     simp[hlen,hj]
    ·rw[List.getElem?_set_ne (by omega),hcs j hj]
     by_cases e2:j<k
     ·rw[if_pos e2,if_pos (by omega)]
     ·rw[if_neg e2,if_neg (by omega)]
   obtain⟨SV,eSV⟩:∃ SV,Qac V shift=SV:=⟨_,rfl⟩
   rw[eSV] at R'
   simp only[eSV] at kp
   clear st hcs ho hlen hbr eSV eV
   go_wp2_with (go_at_call 115;refine (kp _).mono ?_;rintro e w' ⟨rfl,h⟩;obtain rfl:=h.symm)
   go_roundw
   case rel=>exact⟨k+1,by omega,by go_num,R'.out⟩
   case measure=>simp[intOf];omega
  ·have e:k=d:=by omega
   subst e
   have fin:=oRa (zs:=(List.range k).map fun i=>Qac (rs i) shift) ho (by simp) (fun z hz=>by obtain⟨y,_,rfl⟩:=List.mem_map.1 hz;exact Qgd _ _ (hrs y)) (fun j hj=>by rw[hcs j hj,if_pos hj];simp[hj])
   clear hcs ho
   go_wp2
   go_ret2
   exact⟨_,_,rfl,fin,bTn HB.out hbr⟩
theorem QjS (a0:Option Addr)(na ca:Nat)(za:List Int)(a1:Option Addr)(nb cb:Nat)(zb:List Int)(rank shift:Int)(a2:Option Addr)(d c2:Nat)(xs:List Int)(w:World)
  (h0:Reads .i8 w a0 na za) (hc0:na≤ca) (h1:Reads .i8 w a1 nb zb) (hc1:nb≤cb) (h2:Reads .i64 w a2 d xs) (hr:(Lit.int .i64 rank).wf=true) (hs:(Lit.int .i64 shift).wf=true) (hb:na*8≤140737488355328) (hb2:nb*8≤140737488355328) :
  Calls Tryz.prog 94 #[.slice a0 na ca,.slice a1 nb cb,I4 rank,I4 shift,.slice a2 d c2] w fun e w'=>∃ a m c,e=.returned (.tuple #[.slice a m c,I4 (QjT za zb rank xs)])∧Reads .i64 w' a m (QdF za zb rank shift xs)∧Bw w w':=by
 obtain rfl:=h0.len
 obtain rfl:=h1.len
 obtain rfl:=h2.len
 unfold QjT QdF
 have hm:=h0.max
 have hm1:=h1.max
 have hm2:=h2.max
 by_cases f1:fitP za.length xs.length rank
 ·obtain⟨g1,g2,g3⟩:=f1
  have e:za.length=za.length/xs.length*xs.length:=by have:=Nat.div_add_mod za.length xs.length;rw[g2,Nat.mul_comm] at this;omega
  have hle:=Nat.div_le_self za.length xs.length
  have kA:=fun W (hW:Bw w W)=>QfZ a0 za.length ca za (za.length/xs.length) a2 xs.length c2 xs W (h0.below hW) hc0 (h2.below hW) g1 e (by omega)
  rw[g3] at kA
  by_cases f2:fitP zb.length (za.length/xs.length) xs.length
  ·have ok:Qdl za zb rank xs:=⟨⟨g1,g2,g3⟩,f2⟩
   rw[if_pos ok,if_pos ok]
   obtain⟨g4,g5,g6⟩:=f2
   have e':zb.length=xs.length*(za.length/xs.length):=by have:=Nat.div_add_mod zb.length (za.length/xs.length);rw[g5,Nat.mul_comm,show zb.length/(za.length/xs.length)=xs.length by omega] at this;omega
   have hle':=Nat.div_le_self zb.length (za.length/xs.length)
   refine (QlB a0 za.length ca a1 zb.length cb rank shift a2 xs.length c2 (za.length/xs.length) w (lowL za xs) (rowZ zb (za.length/xs.length) (lowL za xs)) hm2 hs (fun i=>wCz _) (fun W hW=>(kA W hW).mono fun e w' ⟨⟨a,c,cs,he,hre,_⟩,hb⟩=>⟨⟨a,c,he,hre⟩,hb⟩) (fun W a c hW hre=>?_)).mono fun e w' ⟨a,c,he,hre,hb⟩=>⟨a,_,c,he,hre,hb⟩
   refine (QfZ a1 zb.length cb zb xs.length a (za.length/xs.length) c (lowL za xs) W (h1.below hW) hc1 hre g4 e' (by omega)).mono ?_
   rintro e w' ⟨⟨a,c,cs,he,hre,rfl,rfl,ho,hcs⟩,hb⟩
   exact⟨⟨cs,he,ho,hcs⟩,hb⟩
  ·have no:¬Qdl za zb rank xs:=fun k=>f2 k.2
   rw[if_neg no,if_neg no]
   refine (QlC a0 za.length ca a1 zb.length cb rank shift a2 xs.length c2 (za.length/xs.length) w hm2 (fun W hW=>(kA W hW).mono fun e w' ⟨⟨a,c,cs,he,_⟩,hb⟩=>⟨⟨a,c,he⟩,hb⟩) (fun W a c=>Qii a1 zb.length cb xs.length a (za.length/xs.length) c W hm1 (by omega) (WalkArith.wf_i64 ⟨by omega,by omega⟩) f2)).mono fun e w' ⟨he,hb⟩=>⟨none,0,0,he,Reads.nil _ _,hb⟩
 ·have no:¬Qdl za zb rank xs:=fun k=>f1 k.1
  rw[if_neg no,if_neg no]
  exact (QlD a0 za.length ca a1 zb.length cb rank shift a2 xs.length c2 w (fun W=>Qii a0 za.length ca rank a2 xs.length c2 W hm hm2 hr f1)).mono fun e w' ⟨he,hb⟩=>⟨none,0,0,he,Reads.nil _ _,hb⟩
theorem Qdd (a0:Option Addr)(n c0:Nat)(ws:List Int)(R:Nat)(a2:Option Addr)(d c2:Nat)(xs:List Int)(w:World)
  (h0:Reads .i8 w a0 n ws) (hc:n≤c0) (h2:Reads .i64 w a2 d xs) (hd:0<d) (hn:n=R*d) (hb:R*8≤140737488355328) :
  Calls Tryz.prog 51 #[.slice a0 n c0,I4 R,.slice a2 d c2] w fun e w'=>(∃ a c,e=.returned (.tuple #[.slice a R c,I4 0])∧Reads .i64 w' a R ((List.range R).map (rowZ ws d xs)))∧Bw w w':=by
 obtain⟨i0,hi,hz0,hz1,hz2⟩:=info_parts QaT
 have hm:=h0.max
 have hm2:=h2.max
 have e1:(n:Int)%(d:Int)=0:=by rw[←Int.natCast_emod,hn];simp
 have e2:(n:Int)/(d:Int)=R:=by rw[←Int.natCast_ediv,hn,Nat.mul_div_cancel R hd]
 have e3:((d:Int)==0)=false:=by simp;omega
 have Hn:Hid (n=R*d):=hn
 clear hn
 go_enter Tryz.func51,Tryz.ntmps51
 go_wp2
 clear e1 e2 e3
 go_loopw [8,9] (fun v i wr=>∃ k:Nat,k≤R∧i=I4 k∧Bw w wr∧wr.ownsRow w.heap.size 2 1 v k (gath (rowZ ws d xs) .i64 k)) (fun _ i _=>R-(intOf i).toNat)
 case atStart=>exact⟨0,Nat.zero_le _,rfl,Below.refl _ _,World.ownsRow_nil _ _ _ _⟩
 case round =>
  obtain⟨k,hk,rfl,hbr,ho⟩:=hrel
  by_cases hlt:k<R
  ·obtain⟨p,ep⟩:∃ p,k*d=p:=⟨_,rfl⟩
   have eq:(k+1)*d=p+d:=by rw[Nat.add_mul,ep];omega
   have hq:p+d≤n:=by rw[Hn.out,←eq];exact Nat.mul_le_mul_right d (by omega)
   have ip:(k:Int)*(d:Int)=(p:Int):=by rw[←ep];simp
   have iq:((k:Int)+1)*(d:Int)=((p+d:Nat):Int):=by rw[←eq];simp
   obtain⟨q,eq'⟩:∃ q,p+d=q:=⟨_,rfl⟩
   rw[eq'] at iq
   have hr0:=h0.below hbr
   have hr2:=h2.below hbr
   obtain⟨x,rfl⟩:=h0.some_ (by omega)
   have hcut:=hr0.cut p d hq
   have eV:rowZ ws d xs k=dotZ ((ws.drop p).take d) xs 6:=by unfold rowZ;rw[ep]
   obtain⟨V,eV'⟩:∃ V,dotZ ((ws.drop p).take d) xs 6=V:=⟨_,rfl⟩
   have Ev:Hid (V=rowZ ws d xs k):=by show V=_;rw[eV,eV']
   have kp:Calls Tryz.prog 89 #[.slice (some (x.add p)) d (c0-p),.slice a2 d c2] wr fun e w'=>e=.returned (.tuple #[I4 V,I4 0])∧∃ m,w'=wr.drewN m:=by
    rw[←eV']
    exact QeH _ _ _ _ _ _ _ _ hcut hr2
   have hsub:q-p=d:=by omega
   have hne:¬c0=p:=by omega
   have hpq:(p:Int)≤(q:Int):=by omega
   have hqc:(q:Int)≤(c0:Int):=by omega
   have hqm:(q:Int)≤9223372036854775807:=by omega
   have hsz:=hbr.size
   clear eq eq' ep eV eV' hr0 hr2 hcut h0 h2
   go_wp2_with (first
    | (go_at_call 89;refine kp.mono ?_;rintro e w' ⟨rfl,m,rfl⟩)
    | (at_builtin;refine wpList_append_own _ rfl (.tmp 57) (.tmp 59) 34 rfl w.heap.size 2 i0 (I4 0) 1 8 Tryz.underlying34 hi hz0 hz1 hz2 rfl (by decide) _ _ _ rfl (World.ownsRow.alloc (w:=wr.drewN m) ho _) ⟨_,0,none⟩ 1 1 [I4 V] rfl rfl (Qai _ _ _) (oOc _ _) (by unfold maxLen;omega) (by omega) (by simp;omega) ?_;intro v' w1 ho' hg _))
   go_roundw
   case rel=>exact⟨k+1,by omega,by go_num,aSt (wr:=wr.drewN m) hsz Ev.out (bDr hbr ⟨m,rfl⟩) ho ho' hg⟩
   case measure=>simp[intOf];omega
  ·have e:k=R:=by omega
   subst e
   have fin:=oRe (zs:=(List.range k).map (rowZ ws d xs)) ho (by simp) (fun z hz=>by obtain⟨y,_,rfl⟩:=List.mem_map.1 hz;exact wCz _) (fun j hj=>by rw[QaP _ _ _ _ hj];simp[hj])
   obtain⟨a,c,rfl,hr⟩:=fin
   clear ho
   go_wp2
   go_ret2
   exact⟨⟨_,_,rfl,hr⟩,hbr⟩
theorem QgM (a0:Option Addr)(na ca:Nat)(a1:Option Addr)(nb cb:Nat)(rank shift:Int)(a2:Option Addr)(d c2:Nat)(w:World)
  (k47:∀ W,Calls Tryz.prog 51 #[.slice a0 na ca,I4 rank,.slice a2 d c2] W fun e w'=>e=.returned (.tuple #[.slice none 0 0,I4 21])∧w'=W) :
  Calls Tryz.prog 105 #[.slice a0 na ca,.slice a1 nb cb,I4 rank,I4 shift,.slice a2 d c2] w fun e w'=>e=.returned (.tuple #[.slice none 0 0,I4 21])∧Bw w w':=by
 go_enter Tryz.func105,Tryz.ntmps105
 go_wp2_with (go_at_call 51;refine (k47 _).mono ?_;rintro e w' ⟨rfl,h⟩;obtain rfl:=h.symm)
 go_ret2
 exact⟨rfl,Below.refl _ _⟩
theorem QgL (a0:Option Addr)(na ca:Nat)(a1:Option Addr)(nb cb:Nat)(rank shift:Int)(a2:Option Addr)(d c2 R:Nat)(w:World)(hd:d≤9223372036854775807)
  (k47:∀ W,Bw w W→Calls Tryz.prog 51 #[.slice a0 na ca,I4 rank,.slice a2 d c2] W fun e w'=>(∃ a c,e=.returned (.tuple #[.slice a R c,I4 0]))∧Bw W w')
  (k47':∀ W a c,Calls Tryz.prog 51 #[.slice a1 nb cb,I4 d,.slice a R c] W fun e w'=>e=.returned (.tuple #[.slice none 0 0,I4 21])∧w'=W) :
  Calls Tryz.prog 105 #[.slice a0 na ca,.slice a1 nb cb,I4 rank,I4 shift,.slice a2 d c2] w fun e w'=>e=.returned (.tuple #[.slice none 0 0,I4 21])∧Bw w w':=by
 have hb:=Below.refl w.heap.size w
 go_enter Tryz.func105,Tryz.ntmps105
 go_wp2_with (first
  | (go_at_call_of 51 rank;refine (k47 _ hb).mono ?_;rintro e w1 ⟨⟨a,c,rfl⟩,h⟩;replace hb:=bTn hb h;clear h k47)
  | (go_at_call 51;refine (k47' _ a c).mono ?_;rintro e w' ⟨rfl,h⟩;obtain rfl:=h.symm))
 go_ret2
 exact⟨rfl,hb⟩
theorem QgK (a0:Option Addr)(na ca:Nat)(a1:Option Addr)(nb cb:Nat)(rank shift:Int)(a2:Option Addr)(d c2 R:Nat)(w:World)(ls:List Int)(rs:Nat→Int)(hd:d*8≤140737488355328)(hs:(Lit.int .i64 shift).wf=true)(hrs:∀ i,(Lit.int .i64 (rs i)).wf=true)
  (k49:∀ W,Bw w W→Calls Tryz.prog 51 #[.slice a0 na ca,I4 rank,.slice a2 d c2] W fun e w'=>(∃ a c,e=.returned (.tuple #[.slice a R c,I4 0])∧Reads .i64 w' a R ls)∧Bw W w')
  (k49':∀ W a c,Bw w W→Reads .i64 W a R ls→Calls Tryz.prog 51 #[.slice a1 nb cb,I4 d,.slice a R c] W fun e w'=>(∃ a c,e=.returned (.tuple #[.slice a d c,I4 0])∧Reads .i64 w' a d ((List.range d).map rs))∧Bw W w') :
  Calls Tryz.prog 105 #[.slice a0 na ca,.slice a1 nb cb,I4 rank,I4 shift,.slice a2 d c2] w fun e w'=>∃ a c,e=.returned (.tuple #[.slice a d c,I4 0])∧Reads .i64 w' a d ((List.range d).map fun i=>Qac (rs i) shift)∧Bw w w':=by
 obtain⟨i0,hi,hz0,hz1,hz2⟩:=info_parts QaT
 have hb:=Below.refl w.heap.size w
 go_enter Tryz.func105,Tryz.ntmps105
 go_wp2_with (first
  | (go_at_call_of 51 rank;refine (k49 _ hb).mono ?_;rintro e w1 ⟨⟨a,c,rfl,r1⟩,h⟩;replace hb:=bTn hb h;clear h k49)
  | (go_at_call 51;refine (k49' _ a c hb r1).mono ?_;rintro e w2 ⟨⟨a',c',rfl,r2⟩,h⟩;replace hb:=bTn hb h;clear h k49' r1))
 have HB:=hdn hb
 clear hb
 go_loopw [15,16] (fun v i wr=>∃ k:Nat,k≤d∧i=I4 k∧Bw w2 wr∧wr.ownsRow w2.heap.size 2 1 v k (gath (fun i=>Qac (rs i) shift) .i64 k)) (fun _ i _=>d-(intOf i).toNat)
 case atStart=>exact⟨0,Nat.zero_le _,rfl,Below.refl _ _,World.ownsRow_nil _ _ _ _⟩
 case round =>
  obtain⟨k,hk,rfl,hbr,ho⟩:=hrel
  by_cases hlt:k<d
  ·obtain⟨x,rfl⟩:=r2.some_ (by omega)
   have cx:=(r2.below hbr).cell x rfl k hlt
   have wk:=hrs k
   obtain⟨V,eV⟩:∃ V,rs k=V:=⟨_,rfl⟩
   rw[show ((List.range d).map rs).getD k 0=V by simp[List.getD,hlt,eV]] at cx
   rw[eV] at wk
   have kp:=refShift_call V shift wk hs
   obtain⟨SV,eSV⟩:∃ SV,Qac V shift=SV:=⟨_,rfl⟩
   have Ev:Hid (SV=(fun i=>Qac (rs i) shift) k):=by show SV=Qac (rs k) shift;rw[eV,eSV]
   simp only[eSV] at kp
   have hsz:=hbr.size
   have HO:=hdn ho
   have HBR:=hdn hbr
   clear eSV eV hbr ho
   go_wp2_with (first
    | (go_at_call 74;refine (kp _).mono ?_;rintro e w' ⟨rfl,h⟩;obtain rfl:=h.symm)
    | (at_builtin;refine wpList_append_own _ rfl (.tmp 44) (.tmp 51) 34 rfl w2.heap.size 2 i0 (I4 0) 1 8 Tryz.underlying34 hi hz0 hz1 hz2 rfl (by decide) _ _ _ rfl (World.ownsRow.alloc (w:=wr) HO.out _) ⟨_,0,none⟩ 1 1 [I4 SV] rfl rfl (Qai _ _ _) (oOc _ _) (by unfold maxLen;omega) (by omega) (by simp;omega) ?_;intro v' w3 ho' hg _))
   go_roundw
   case rel=>exact⟨k+1,by omega,by go_num,aSt (wr:=wr) hsz Ev.out HBR.out HO.out ho' hg⟩
   case measure=>simp[intOf];omega
  ·have e:k=d:=by omega
   subst e
   have fin:=oRe (zs:=(List.range k).map fun i=>Qac (rs i) shift) ho (by simp) (fun z hz=>by obtain⟨y,_,rfl⟩:=List.mem_map.1 hz;exact Qgd _ _ (hrs y)) (fun j hj=>by rw[QaP _ _ _ _ hj];simp[hj])
   obtain⟨a,c,rfl,hr⟩:=fin
   clear ho
   go_wp2
   go_ret2
   exact⟨_,_,rfl,hr,bTn HB.out hbr⟩
theorem QfO (a0:Option Addr)(na ca:Nat)(za:List Int)(a1:Option Addr)(nb cb:Nat)(zb:List Int)(rank shift:Int)(a2:Option Addr)(d c2:Nat)(xs:List Int)(w:World)
  (h0:Reads .i8 w a0 na za) (hc0:na≤ca) (h1:Reads .i8 w a1 nb zb) (hc1:nb≤cb) (h2:Reads .i64 w a2 d xs) (hr:(Lit.int .i64 rank).wf=true) (hs:(Lit.int .i64 shift).wf=true) (hb:na*8≤140737488355328) (hb2:nb*8≤140737488355328) :
  Calls Tryz.prog 105 #[.slice a0 na ca,.slice a1 nb cb,I4 rank,I4 shift,.slice a2 d c2] w fun e w'=>∃ a m c,e=.returned (.tuple #[.slice a m c,I4 (QjT za zb rank xs)])∧Reads .i64 w' a m (QdF za zb rank shift xs)∧Bw w w':=by
 obtain rfl:=h0.len
 obtain rfl:=h1.len
 obtain rfl:=h2.len
 unfold QjT QdF
 have hm:=h0.max
 have hm1:=h1.max
 have hm2:=h2.max
 by_cases f1:fitP za.length xs.length rank
 ·obtain⟨g1,g2,g3⟩:=f1
  have e:za.length=za.length/xs.length*xs.length:=by have:=Nat.div_add_mod za.length xs.length;rw[g2,Nat.mul_comm] at this;omega
  have hle:=Nat.div_le_self za.length xs.length
  have kA:=fun W (hW:Bw w W)=>Qdd a0 za.length ca za (za.length/xs.length) a2 xs.length c2 xs W (h0.below hW) hc0 (h2.below hW) g1 e (by omega)
  rw[g3] at kA
  by_cases f2:fitP zb.length (za.length/xs.length) xs.length
  ·have ok:Qdl za zb rank xs:=⟨⟨g1,g2,g3⟩,f2⟩
   rw[if_pos ok,if_pos ok]
   obtain⟨g4,g5,g6⟩:=f2
   have e':zb.length=xs.length*(za.length/xs.length):=by have:=Nat.div_add_mod zb.length (za.length/xs.length);rw[g5,Nat.mul_comm,show zb.length/(za.length/xs.length)=xs.length by omega] at this;omega
   have hle':=Nat.div_le_self zb.length (za.length/xs.length)
   refine (QgK a0 za.length ca a1 zb.length cb rank shift a2 xs.length c2 (za.length/xs.length) w (lowL za xs) (rowZ zb (za.length/xs.length) (lowL za xs)) (by omega) hs (fun i=>wCz _) (fun W hW=>(kA W hW).mono fun e w' ⟨⟨a,c,he,hre⟩,hb⟩=>⟨⟨a,c,he,hre⟩,hb⟩) (fun W a c hW hre=>?_)).mono fun e w' ⟨a,c,he,hre,hb⟩=>⟨a,_,c,he,hre,hb⟩
   refine (Qdd a1 zb.length cb zb xs.length a (za.length/xs.length) c (lowL za xs) W (h1.below hW) hc1 hre g4 e' (by omega)).mono ?_
   rintro e w' ⟨⟨a,c,he,hre⟩,hb⟩
   exact⟨⟨a,c,he,hre⟩,hb⟩
  ·have no:¬Qdl za zb rank xs:=fun k=>f2 k.2
   rw[if_neg no,if_neg no]
   refine (QgL a0 za.length ca a1 zb.length cb rank shift a2 xs.length c2 (za.length/xs.length) w hm2 (fun W hW=>(kA W hW).mono fun e w' ⟨⟨a,c,he,_⟩,hb⟩=>⟨⟨a,c,he⟩,hb⟩) (fun W a c=>Qdy a1 zb.length cb xs.length a (za.length/xs.length) c W hm1 (by omega) (WalkArith.wf_i64 ⟨by omega,by omega⟩) f2)).mono fun e w' ⟨he,hb⟩=>⟨none,0,0,he,Reads.nil _ _,hb⟩
 ·have no:¬Qdl za zb rank xs:=fun k=>f1 k.1
  rw[if_neg no,if_neg no]
  exact (QgM a0 za.length ca a1 zb.length cb rank shift a2 xs.length c2 w (fun W=>Qdy a0 za.length ca rank a2 xs.length c2 W hm hm2 hr f1)).mono fun e w' ⟨he,hb⟩=>⟨none,0,0,he,Reads.nil _ _,hb⟩
end Go.Proofs.YthliomlmhfjhnaaGreat

/- Texts put together. -/
import Derived.Test.YtbkjhfmehemgpaaGreatFb46
import Derived.Test.YtbkjhfmehemgpaaGreatFb27
import Derived.Test.YtbkjhfmehemgpaaGreatFb47
import Derived.Test.YtbkjhfmehemgpaaGreatFb24
import Derived.Test.YtbkjhfmehemgpaaGreatFb28
import Derived.Deep.Onto
import Derived.Laws.CopyOwn
import Derived.Laws.Tables
namespace Go.Proofs.YtbkjhfmehemgpaaGreat
set_option maxRecDepth 20000
set_option maxHeartbeats 16000000
open Go.ChangeShapes Go.WideShapes Go.ChangeAt Go.RowKit
set_option linter.unusedVariables false
set_option linter.unusedSimpArgs false
def nextZ (r:Rq)(l:List Int)(n:Nat):Int:=if r.q.k=1 then maxZ (scoreL r.M l) else chooseZ (scoreL r.M l) r.q.T (heatZ r.q.H) (bitsZ r.q.sd n)
theorem wf64_of {z:Int}(h0:-9223372036854775808≤z)(h1:z≤9223372036854775807):(Lit.int .i64 z).wf=true:=by
 have e:IntKind.i64.wrap z=z:=by rw[IntKind.wrap_i64];omega
 rw[←e]
 exact wf_wrap _ _
theorem heatZ_wf (x:Nat):(Lit.int .i64 (heatZ x)).wf=true:=by
 have h:=knobSigns.fixN_bounds x
 have h2:-2147483648≤heatZ x∧heatZ x≤2147483647:=by unfold heatZ;omega
 exact wf64_of (by omega) (by omega)
theorem bitsZ_wf (s n:Int):(Lit.int .u64 (bitsZ s n)).wf=true:=by unfold bitsZ bz3;exact wf_bits _ _ _ _
theorem next_greedy (r:Rq)(Y U D Ya:Nat→Nat→SL)(ps:List Int)(K:MdOk r.M)(w:World)(h:RqAt w r Y U D Ya ps)(ta:Option Addr)(tn tc:Nat)(ts:List Int)(ht:Reads .i64 w ta tn ts)(te:ta=none→tc=0)(hp:0<r.q.n)(hB:runB r.M (ps++ts) (r.q.n+tn)=true)(hk:(r.q.k==1)=true) :
  Calls Tryz.prog 45 #[r.w,.slice ta tn tc] w fun e w'=>e=.returned (.tuple #[.int .i64 (maxZ (scoreL r.M (ps++ts))),.int .i64 0])∧Below w.heap.size w w':=by
 have hb:=bNw (Below.refl w.heap.size w) (.cells r.cs 55)
 have q0:=Blk.new 55 w r.cs
 have ks:=fun W (hb:Below w.heap.size w W)=>askScores_call r Y U D Ya ps K W (h.below hb) ta tn tc ts (ht.below hb) te hp hB
 have hv:=K.fit.v1
 obtain⟨W0,eW⟩:∃ W0,w.alloc (.cells r.cs 55)=W0:=⟨_,rfl⟩
 rw[eW] at hb q0
 have EW:=hdn eW
 clear eW h ht hB te
 go_enter Tryz.func45,Tryz.ntmps45
 go_upto_region 1 with fail
 rw[EW.out]
 clear EW
 refine wp_region_tab0 (by kernel_rfl) rfl (fun W=>Below w.heap.size w W∧Blk 55 W w.heap.size r.cs) [.eq r.w,.eq (.slice ta tn tc),.row r.M.v.toNat (scoreL r.M (ps++ts)),.row r.M.v.toNat (scoreL r.M (ps++ts)),.nums r.M.v.toNat (scoreL r.M (ps++ts)),.eq (.int .i64 0),.nums r.M.v.toNat (scoreL r.M (ps++ts)),.eq (.int .i64 0)] ⟨hb,q0⟩ ⟨?l0,?m1,?c2,?p3,?x4,?x5,?p6,?m7,trivial⟩ ?fin
 case l0 =>
  rintro b u - ⟨hb,qb⟩ ⟨h1,-⟩ K hK
  exact ask_load rfl h1 qb Tryz.underlying55 rfl rfl (hK _ _ (Below.refl _ _) ⟨hb,qb⟩ rfl)
 case m1 =>
  rintro b u-hS ⟨h1,-⟩ K hK
  exact hK _ _ (Below.refl _ _) hS h1
 case c2 =>
  rintro b u - ⟨hb,qb⟩ ⟨h1,h2,-⟩ K hK
  replace h1:=show b.tmps.getD 10 undef=r.w from h1
  replace h2:=show b.tmps.getD 11 undef=.slice ta tn tc from h2
  dsimp only
  go_wp2_with (go_at_call 85;refine (ks _ hb).mono ?_;rintro e W1 ⟨⟨a',c',rfl,r',-⟩,h⟩;exact hK _ _ h ⟨bTn hb h,qb.kept h⟩ ⟨_,_,rfl,r'⟩)
 case p3 =>
  rintro b u-hS ⟨h1,-⟩ K hK
  exact hK _ _ (Below.refl _ _) hS h1
 case x4 =>
  rintro b u-hS ⟨h1,-⟩ K hK
  obtain⟨a,c,h1,g1⟩:=h1
  dsimp only
  go_simp
  exact hK _ _ (Below.refl _ _) hS ⟨_,_,rfl,g1⟩
 case x5 =>
  rintro b u-hS ⟨h1,-⟩ K hK
  obtain⟨a,c,h1,g1⟩:=h1
  dsimp only
  go_simp
  exact hK _ _ (Below.refl _ _) hS rfl
 case p6 =>
  rintro b u-hS ⟨h1,-⟩ K hK
  exact hK _ _ (Below.refl _ _) hS h1
 case m7 =>
  rintro b u-hS ⟨h1,-⟩ K hK
  exact hK _ _ (Below.refl _ _) hS h1
 rintro g u ⟨hb,qb⟩ ⟨-,-,-,-,-,-,f6,f7,-⟩
 replace f7:=show g 7=.int .i64 0 from f7
 obtain⟨sa,sc,f6,rs⟩:=f6
 replace f6:=show g 6=.slice sa r.M.v.toNat sc from f6
 simp only[List.filterMap,List.foldl,f6,f7,Act.put,List.setIfInBounds_toArray,List.set_cons_succ,List.set_cons_zero]
 have c15:=qb.cell 15 rfl
 clear f6 f7 ks
 go_wp2_with (go_at_call 86;refine (max_call _ _ _ _ _ rs).mono ?_;rintro e W2 ⟨rfl,h2⟩;replace hb:=bTn hb h2;clear h2)
 go_ret2
 exact⟨rfl,hb⟩
theorem next_sample (r:Rq)(Y U D Ya:Nat→Nat→SL)(ps:List Int)(K:MdOk r.M)(w:World)(h:RqAt w r Y U D Ya ps)(ta:Option Addr)(tn tc:Nat)(ts:List Int)(ht:Reads .i64 w ta tn ts)(te:ta=none→tc=0)(hp:0<r.q.n)(hB:runB r.M (ps++ts) (r.q.n+tn)=true)(hk:(r.q.k==1)=false)(hH:isN r.q.H=false)(hs:(Lit.int .u64 r.q.sd).wf=true) :
  Calls Tryz.prog 45 #[r.w,.slice ta tn tc] w fun e w'=>e=.returned (.tuple #[.int .i64 (chooseZ (scoreL r.M (ps++ts)) r.q.T (heatZ r.q.H) (bitsZ r.q.sd tn)),.int .i64 0])∧Below w.heap.size w w':=by
 have kh:=heat_call r.q.H
 rw[show fixE r.q.H=0 by simp[fixE,hH]] at kh
 have kch:=fun W a c (hr:Reads .i64 W a r.M.v.toNat (scoreL r.M (ps++ts)))=>choose_call a r.M.v.toNat c _ r.q.T (heatZ r.q.H) (bitsZ r.q.sd tn) W hr (by have:=K.fit.v1;omega) (heatZ_wf _) (bitsZ_wf _ _)
 have kb:=bits_call r.q.sd tn
 obtain⟨HZ,eH⟩:∃ z,heatZ r.q.H=z:=⟨_,rfl⟩
 obtain⟨BZ,eB⟩:∃ z,bitsZ r.q.sd tn=z:=⟨_,rfl⟩
 obtain⟨CZ,eC⟩:∃ z,chooseZ (scoreL r.M (ps++ts)) r.q.T HZ BZ=z:=⟨_,rfl⟩
 simp only[eH,eB,eC] at kh kch kb ⊢
 clear eH eB eC
 have hb:=bNw (Below.refl w.heap.size w) (.cells r.cs 55)
 have q0:=Blk.new 55 w r.cs
 have ks:=fun W (hb:Below w.heap.size w W)=>askScores_call r Y U D Ya ps K W (h.below hb) ta tn tc ts (ht.below hb) te hp hB
 have hv:=K.fit.v1
 obtain⟨W0,eW⟩:∃ W0,w.alloc (.cells r.cs 55)=W0:=⟨_,rfl⟩
 rw[eW] at hb q0
 have EW:=hdn eW
 clear eW h ht hB te
 go_enter Tryz.func45,Tryz.ntmps45
 go_upto_region 1 with fail
 rw[EW.out]
 clear EW
 refine wp_region_tab0 (by kernel_rfl) rfl (fun W=>Below w.heap.size w W∧Blk 55 W w.heap.size r.cs) [.eq r.w,.eq (.slice ta tn tc),.row r.M.v.toNat (scoreL r.M (ps++ts)),.row r.M.v.toNat (scoreL r.M (ps++ts)),.nums r.M.v.toNat (scoreL r.M (ps++ts)),.eq (.int .i64 0),.nums r.M.v.toNat (scoreL r.M (ps++ts)),.eq (.int .i64 0)] ⟨hb,q0⟩ ⟨?l0,?m1,?c2,?p3,?x4,?x5,?p6,?m7,trivial⟩ ?fin
 case l0 =>
  rintro b u - ⟨hb,qb⟩ ⟨h1,-⟩ K hK
  exact ask_load rfl h1 qb Tryz.underlying55 rfl rfl (hK _ _ (Below.refl _ _) ⟨hb,qb⟩ rfl)
 case m1 =>
  rintro b u-hS ⟨h1,-⟩ K hK
  exact hK _ _ (Below.refl _ _) hS h1
 case c2 =>
  rintro b u - ⟨hb,qb⟩ ⟨h1,h2,-⟩ K hK
  replace h1:=show b.tmps.getD 10 undef=r.w from h1
  replace h2:=show b.tmps.getD 11 undef=.slice ta tn tc from h2
  dsimp only
  go_wp2_with (go_at_call 85;refine (ks _ hb).mono ?_;rintro e W1 ⟨⟨a',c',rfl,r',-⟩,h⟩;exact hK _ _ h ⟨bTn hb h,qb.kept h⟩ ⟨_,_,rfl,r'⟩)
 case p3 =>
  rintro b u-hS ⟨h1,-⟩ K hK
  exact hK _ _ (Below.refl _ _) hS h1
 case x4 =>
  rintro b u-hS ⟨h1,-⟩ K hK
  obtain⟨a,c,h1,g1⟩:=h1
  dsimp only
  go_simp
  exact hK _ _ (Below.refl _ _) hS ⟨_,_,rfl,g1⟩
 case x5 =>
  rintro b u-hS ⟨h1,-⟩ K hK
  obtain⟨a,c,h1,g1⟩:=h1
  dsimp only
  go_simp
  exact hK _ _ (Below.refl _ _) hS rfl
 case p6 =>
  rintro b u-hS ⟨h1,-⟩ K hK
  exact hK _ _ (Below.refl _ _) hS h1
 case m7 =>
  rintro b u-hS ⟨h1,-⟩ K hK
  exact hK _ _ (Below.refl _ _) hS h1
 rintro g u ⟨hb,qb⟩ ⟨-,-,-,-,-,-,f6,f7,-⟩
 replace f7:=show g 7=.int .i64 0 from f7
 obtain⟨sa,sc,f6,rs⟩:=f6
 replace f6:=show g 6=.slice sa r.M.v.toNat sc from f6
 simp only[List.filterMap,List.foldl,f6,f7,Act.put,List.setIfInBounds_toArray,List.set_cons_succ,List.set_cons_zero]
 have c15:=qb.cell 15 rfl
 have c21:=qb.cell 21 rfl
 clear f6 f7 ks
 go_wp2_with (go_at_call 87;refine (kh _).mono ?_;rintro e W2 ⟨rfl,h2⟩;obtain rfl:=h2.symm;clear h2 kh)
 refine wp_region_tab (by kernel_rfl) (by kernel_rfl) rfl (fun W=>Below w.heap.size w W∧Blk 55 W w.heap.size r.cs∧Reads .i64 W sa r.M.v.toNat (scoreL r.M (ps++ts))) [.eq (.slice sa r.M.v.toNat sc),.eq (.pointer (some ⟨w.heap.size,15,none⟩)),.eq (.pointer (some ⟨w.heap.size,20,none⟩)),.eq (.int .i64 r.q.T),.eq (.int .i64 HZ),.eq (.pointer (some ⟨w.heap.size,15,none⟩)),.eq (.pointer (some ⟨w.heap.size,19,none⟩)),.eq (.int .u64 r.q.sd),.eq (.slice ta tn tc),.eq (.int .i64 tn),.eq (.int .u64 BZ),.eq (.int .i64 CZ),.eq (.int .i64 CZ),.eq (.int .i64 0)] ⟨bDr hb ⟨1,rfl⟩,qb,rs.below (bDr (Below.refl _ _) ⟨1,rfl⟩)⟩ ⟨?_,?_,?_,?_,?_,?_,?_,?_,?_,?_,?b10,?c11,?_,?_,trivial⟩ ?fin2
 case b10 =>
  rintro b u - ⟨hb,qb,hr⟩ ⟨h1,h2,-⟩ K hK
  replace h1:=show b.tmps.getD 41 undef=.int .u64 r.q.sd from h1
  replace h2:=show b.tmps.getD 43 undef=.int .i64 tn from h2
  dsimp only
  go_wp2_with (go_at_call 89;refine (kb _).mono ?_;rintro e W1 ⟨rfl,h⟩;obtain rfl:=h.symm;exact hK _ _ (Below.refl _ _) ⟨hb,qb,hr⟩ rfl)
 case c11 =>
  rintro b u - ⟨hb,qb,hr⟩ ⟨h1,h2,h3,h4,-⟩ K hK
  replace h1:=show b.tmps.getD 34 undef=.slice sa r.M.v.toNat sc from h1
  replace h2:=show b.tmps.getD 37 undef=.int .i64 r.q.T from h2
  replace h3:=show b.tmps.getD 38 undef=.int .i64 HZ from h3
  replace h4:=show b.tmps.getD 44 undef=.int .u64 BZ from h4
  dsimp only
  go_wp2_with (go_at_call 88;refine (kch _ _ _ hr).mono ?_;rintro e W1 ⟨rfl,h⟩;exact hK _ _ h ⟨bTn hb h,qb.kept h,hr.below h⟩ rfl)
 case fin2 =>
  rintro g u ⟨hb,qb,-⟩ ⟨-,-,-,-,-,-,-,-,-,-,-,-,f4,f5,-⟩
  replace f4:=show g 4=.int .i64 CZ from f4
  replace f5:=show g 5=.int .i64 0 from f5
  simp only[List.filterMap,List.foldl,f4,f5,Act.put,List.setIfInBounds_toArray,List.set_cons_succ,List.set_cons_zero]
  go_wp2
  go_ret2
  exact⟨rfl,hb⟩
 all_goals
  rintro b u - ⟨hb,qb,hr⟩ hv K hK
  have c19:=qb.cell 19 rfl
  have c20:=qb.cell 20 rfl
  first
   | (obtain⟨h1,h2,-⟩:=hv;replace h1:=show b.tmps.getD _ undef=_ from h1;replace h2:=show b.tmps.getD _ undef=_ from h2)
   | (obtain⟨h1,-⟩:=hv;replace h1:=show b.tmps.getD _ undef=_ from h1)
   | skip
  dsimp only
  go_simp
  exact hK _ _ (Below.refl _ _) ⟨hb,qb,hr⟩ rfl
def tokGo (nx:List Int→Int)(S:Int):Nat→List Int→List Int
 | 0,ts=>ts
 | k+1,ts=>if nx ts=S then ts++[nx ts] else tokGo nx S k (ts++[nx ts])
def nxZ (r:Rq)(ps:List Int)(ts:List Int):Int:=nextZ r (ps++ts) ts.length
def tokensZ (r:Rq)(ps:List Int):List Int:=tokGo (nxZ r ps) r.q.S r.q.L.toNat []
theorem placeN_lt {xs:List Int}(h:0<xs.length)(i:Nat):(places xs).getD i 0<xs.length:=by
 by_cases hi:i<(places xs).length
 ·have e:(places xs).getD i 0=(places xs)[i]:=by simp[hi]
  rw[e]
  have hm:(places xs)[i]∈places xs:=List.getElem_mem hi
  unfold places at hm
  rw[List.mem_mergeSort] at hm
  exact List.mem_range.1 hm
 ·have e:(places xs).getD i 0=0:=by simp[hi]
  rw[e]
  exact h
theorem maxZ_range {xs:List Int}(h:0<xs.length):0≤maxZ xs∧maxZ xs<xs.length:=by
 unfold maxZ
 rw[if_neg (by omega)]
 have:=placeN_lt h 0
 omega
theorem chooseZ_range {xs:List Int}{k h u:Int}(hx:0<xs.length):0≤chooseZ xs k h u∧chooseZ xs k h u<xs.length:=by
 unfold chooseZ
 split
 ·exact maxZ_range hx
 ·split
  ·exact maxZ_range hx
  ·have:=placeN_lt hx (seatZ (shZ xs h (manyZ xs k)) (manyZ xs k) (u%upTo (shZ xs h (manyZ xs k)) (manyZ xs k)))
   omega
theorem scoreL_length {M:Md}(K:MdOk M)(l:List Int):((scoreL M l).length:Int)=M.v:=by
 have F:=K.fit
 have hv:=F.v0
 have d0:=F.d0
 have eO:=F.o
 unfold scoreL matL lastL
 rw[List.length_map,List.length_range,outF_length]
 have e:M.m.o.length=M.v.toNat*M.D:=by
  have:((M.v.toNat:Nat):Int)=M.v:=by omega
  rw[←this,←Int.natCast_mul] at eO
  exact Int.ofNat.inj eO
 rw[e,Nat.mul_div_cancel _ (by omega)]
 omega
theorem nextZ_range {r:Rq}(K:MdOk r.M)(l:List Int)(n:Nat):0≤nextZ r l n∧nextZ r l n<r.M.v:=by
 have hl:=scoreL_length K l
 have hv:=K.fit.v0
 unfold nextZ
 split
 ·have:=maxZ_range (xs:=scoreL r.M l) (by omega)
  omega
 ·have:=chooseZ_range (xs:=scoreL r.M l) (k:=r.q.T) (h:=heatZ r.q.H) (u:=bitsZ r.q.sd n) (by omega)
  omega
theorem run_joined {M:Md}{ps ts:List Int}(h1:∀ j,j<ps.length→0≤ps.getD j 0∧ps.getD j 0<M.v)(h2:∀ t∈ts,0≤t∧t<M.v)(hn:ps.length+ts.length≤24):runB M (ps++ts) (ps.length+ts.length)=true:=by
 unfold runB
 rw[Bool.and_eq_true,decide_eq_true_eq,List.all_eq_true]
 refine⟨hn,fun k hk=>?_⟩
 have hk':=List.mem_range.1 hk
 unfold tokB
 have key:0≤(ps++ts).getD k 0∧(ps++ts).getD k 0<M.v:=by
  by_cases hlt:k<ps.length
  ·have e:(ps++ts).getD k 0=ps.getD k 0:=by simp[List.getD,List.getElem?_append_left hlt]
   rw[e]
   exact h1 k hlt
  ·have e:(ps++ts).getD k 0=ts.getD (k-ps.length) 0:=by simp[List.getD,List.getElem?_append_right (Nat.le_of_not_lt hlt)]
   rw[e]
   have h3:k-ps.length<ts.length:=by omega
   have e2:ts.getD (k-ps.length) 0=ts[k-ps.length]:=by simp[h3]
   rw[e2]
   exact h2 _ (List.getElem_mem h3)
 rw[decide_eq_true key.1,decide_eq_true key.2];rfl
def Rq.draws (r:Rq):Prop:=r.q.k=1∨((r.q.k==1)=false∧isN r.q.H=false∧(Lit.int .u64 r.q.sd).wf=true)
theorem asknext_call (r:Rq)(Y U D Ya:Nat→Nat→SL)(ps:List Int)(K:MdOk r.M)(w:World)(h:RqAt w r Y U D Ya ps)(ta:Option Addr)(tn tc:Nat)(ts:List Int)(ht:Reads .i64 w ta tn ts)(te:ta=none→tc=0)(hp:0<r.q.n)(hB:runB r.M (ps++ts) (r.q.n+tn)=true)(hk:r.draws) :
  Calls Tryz.prog 45 #[r.w,.slice ta tn tc] w fun e w'=>e=.returned (.tuple #[.int .i64 (nextZ r (ps++ts) tn),.int .i64 0])∧Below w.heap.size w w':=by
 rcases hk with h1|⟨h1,h2,h3⟩
 ·have:=next_greedy r Y U D Ya ps K w h ta tn tc ts ht te hp hB (by simp[h1])
  unfold nextZ
  rw[if_pos h1]
  exact this
 ·have:=next_sample r Y U D Ya ps K w h ta tn tc ts ht te hp hB h1 h2 h3
  unfold nextZ
  rw[if_neg (by simpa using h1)]
  exact this
def lenOf:Value→Nat
 | .slice _ n _=>n
 | _=>0
def ints (ts:List Int):List Value:=ts.map (.int .i64)
theorem ints_at (ts:List Int)(j:Nat)(h:j<ts.length):(ints ts)[j]? = some (.int .i64 (ts.getD j 0)):=by
 unfold ints
 simp[List.getD,h]
theorem in_app {v:Int}{ts:List Int}{T:Int}(h:∀ t∈ts,0≤t∧t<v)(hT:0≤T∧T<v):∀ t∈ts++[T],0≤t∧t<v:=by
 intro t ht
 rcases List.mem_append.1 ht with h1|h1
 ·exact h t h1
 ·simp at h1
  subst h1
  exact hT
theorem append_ints {w wr w1:World}{B:Nat}{e:TypeId}{ts:List Int}{v v':Value}{Z:Int}{o:Obj}(hB:B≤wr.heap.size)(hb:Below B w wr)
  (hown:wr.ownsRow B e 1 v ts.length (ints ts)) (hown':w1.ownsRow B e 1 v' (ts.length+1) (ints ts++[.int .i64 Z])) (hg:(wr.alloc o).grownBy w1 v.ownBlock) :
  Below B w w1∧w1.ownsRow B e 1 v' (ts++[Z]).length (ints (ts++[Z])) :=
 ⟨(hb.alloc hB o).grown hg (by have:=(Below.refl B wr).alloc hB o;have:=this.size;omega) (fun g h=>(hown.lt g h).1),by
  rw[List.length_append]
  unfold ints at *
  rw[List.map_append]
  exact hown'⟩
theorem own_len {w:World}{B:Nat}{e:TypeId}{v:Value}{n:Nat}{cs:List Value}(h:w.ownsRow B e 1 v n cs):lenOf v=n:=by
 rcases h.2 with⟨rfl,rfl⟩|⟨g,cap,cur,rfl,_⟩
 ·rfl
 ·rfl
theorem tokens_call (r:Rq)(Y U D Ya:Nat→Nat→SL)(ps:List Int)(K:MdOk r.M)(w:World)(h:RqAt w r Y U D Ya ps)(hp:0<r.q.n)(hps:∀ j,j<ps.length→0≤ps.getD j 0∧ps.getD j 0<r.M.v)(hk:r.draws)(hv:r.M.v≤1000000)(hL:1≤r.q.L∧(r.q.n:Int)+r.q.L≤24) :
  Calls Tryz.prog 21 #[r.w] w fun e w'=>(∃ a c,e=.returned (.tuple #[.slice a (tokensZ r ps).length c,.int .i64 0])∧Reads .i64 w' a (tokensZ r ps).length (tokensZ r ps)∧w'.ownsRow w.heap.size 3 1 (.slice a (tokensZ r ps).length c) (tokensZ r ps).length (ints (tokensZ r ps)))∧Below w.heap.size w w':=by
 have hb:=bNw (Below.refl w.heap.size w) (.cells r.cs 55)
 have q0:=Blk.new 55 w r.cs
 have hpl:ps.length=r.q.n:=h.q.t.len
 obtain⟨i0,hi,hz0,hz1,hz2⟩:=info_parts info3
 have hsz:(w.alloc (.cells r.cs 55)).heap.size=w.heap.size+1:=show (w.heap.push _).size=_ by simp
 obtain⟨L,eL⟩:∃ L:Nat,r.q.L.toNat=L:=⟨_,rfl⟩
 have hL':r.q.L=L:=by omega
 have HZ:Hid (∀ ts:List Int,ts.length<L→(∀ t∈ts,0≤t∧t<r.M.v)→runB r.M (ps++ts) (r.q.n+ts.length)=true):=show ∀ ts:List Int,_ from fun ts h1 h2=>by
  rw[←hpl]
  exact run_joined hps h2 (by omega)
 have HN:Hid (∀ ts,0≤nxZ r ps ts∧nxZ r ps ts<r.M.v):=show ∀ ts,_ from fun ts=>nextZ_range K _ _
 have ks:Hid (∀ W,Below (w.heap.size+1) (w.alloc (.cells r.cs 55)) W→∀ ta tc (ts:List Int),ts.length<L→(∀ t∈ts,0≤t∧t<r.M.v)→Reads .i64 W ta ts.length ts→(ta=none→tc=0)→Calls Tryz.prog 45 #[r.w,.slice ta ts.length tc] W fun e w'=>e=.returned (.tuple #[.int .i64 (nxZ r ps ts),.int .i64 0])∧Below W.heap.size W w'):=show ∀ W,_ from fun W hW ta tc ts h1 h2 h3 h4=>asknext_call r Y U D Ya ps K W (h.below (by rw[←hsz] at hW;exact bTn hb hW)) ta ts.length tc ts h3 h4 hp (HZ.out ts h1 h2) hk
 have HT:Hid (tokensZ r ps=tokGo (nxZ r ps) r.q.S L []):=show _=_ from by unfold tokensZ;rw[eL]
 obtain⟨R,eR⟩:∃ R,tokensZ r ps=R:=⟨_,rfl⟩
 rw[eR] at HT ⊢
 obtain⟨nx,en⟩:∃ nx,nxZ r ps=nx:=⟨_,rfl⟩
 rw[en] at ks HT HN
 obtain⟨W0,eW⟩:∃ W0,w.alloc (.cells r.cs 55)=W0:=⟨_,rfl⟩
 rw[eW] at hb q0 ks hsz
 rw[←hsz] at ks
 have EW:=hdn eW
 clear eW eR h hps hk HZ en
 go_enter Tryz.func21,Tryz.ntmps21
 go_upto_region 1 with fail
 rw[EW.out]
 clear EW
 go_wp2
 go_loopw [4] (fun v wr=>∃ ts:List Int,Below W0.heap.size W0 wr∧wr.ownsRow W0.heap.size 3 1 v ts.length (ints ts)∧ts.length≤L∧(∀ t∈ts,0≤t∧t<r.M.v)∧tokGo nx r.q.S (L-ts.length) ts=R∧lenOf v=ts.length) (fun v _=>L-lenOf v)
 case atStart=>exact⟨[],Below.refl _ _,World.ownsRow_nil _ _ _ _,Nat.zero_le _,by simp,HT.out.symm,rfl⟩
 case round =>
  obtain⟨ts,hbr,ho,hl,hr,ht,hv'⟩:=hrel
  have WF:Hid (∀ z∈ts,(Lit.int .i64 z).wf=true):=show ∀ z∈ts,_ from fun z hz=>WalkArith.wf_i64 ⟨by have:=hr z hz;omega,by have:=hr z hz;omega⟩
  obtain⟨a,c,ev,rd⟩:=oRe (k:=.i64) (zs:=ts) ho rfl WF.out (fun j hj=>ints_at ts j hj)
  subst ev
  have te:=own_none ho
  have qb:=q0.kept hbr
  have c17:wr.cell? ⟨w.heap.size,17,none⟩=some (.int .i64 r.q.L):=qb.cell 17 rfl
  have c18:wr.cell? ⟨w.heap.size,18,none⟩=some (.int .i64 r.q.S):=qb.cell 18 rfl
  have hos:=hbr.size
  rw[hL'] at c17
  by_cases hlt:ts.length<L
  ·have kn:∀ W,Below W0.heap.size W0 W→W.ownsRow W0.heap.size 3 1 (.slice a ts.length c) ts.length (ints ts)→_:=fun W hW hO=>ks.out W hW a c ts hlt hr (oRa hO rfl WF.out (fun j hj=>ints_at ts j hj)) te
   have hT:=HN.out ts
   have ht':(if nx ts=r.q.S then ts++[nx ts] else tokGo nx r.q.S (L-(ts.length+1)) (ts++[nx ts]))=R:=by
    rw[←ht,show L-ts.length=(L-(ts.length+1))+1 by omega]
    rfl
   have HR:=hdn ht'
   have TT:=hdn ht
   obtain⟨T,eT⟩:∃ T,nx ts=T:=⟨_,rfl⟩
   rw[eT] at kn HR hT
   have hin:=hdn (in_app hr hT)
   clear ht ht' eT ks
   go_upto_region 3 with fail
   refine wp_region_tab0 (by kernel_rfl) rfl (fun W=>Below W0.heap.size W0 W∧Blk 55 W w.heap.size r.cs∧W.ownsRow W0.heap.size 3 1 (.slice a ts.length c) ts.length (ints ts)) [.eq r.w,.eq (.slice a ts.length c),.eq (.tuple #[.int .i64 T,.int .i64 0]),.eq (.tuple #[.int .i64 T,.int .i64 0]),.eq (.int .i64 T),.eq (.int .i64 0),.eq (.int .i64 T),.eq (.int .i64 0)] ⟨hbr,qb,ho⟩ ⟨?l0,?_,?c2,?_,?_,?_,?_,?_,trivial⟩ ?fin
   case l0 =>
    rintro b u - ⟨hb1,qb1,ho1⟩ ⟨h1,-⟩ K hK
    exact ask_load rfl h1 qb1 Tryz.underlying55 rfl rfl (hK _ _ (Below.refl _ _) ⟨hb1,qb1,ho1⟩ rfl)
   case c2 =>
    rintro b u - ⟨hb1,qb1,ho1⟩ ⟨h1,h2,-⟩ K hK
    replace h1:=show b.tmps.getD 14 undef=r.w from h1
    replace h2:=show b.tmps.getD 15 undef=.slice a ts.length c from h2
    dsimp only
    go_wp2_with (go_at_call 45;refine (kn _ hb1 ho1).mono ?_;rintro e W1 ⟨rfl,h⟩;exact hK _ _ h ⟨bTn hb1 h,qb1.kept h,oBe ho1 h⟩ rfl)
   case fin =>
    rintro g u ⟨hb1,qb1,ho3⟩ ⟨-,-,-,-,-,-,f6,f7,-⟩
    replace f6:=show g 5=.int .i64 T from f6
    replace f7:=show g 6=.int .i64 0 from f7
    simp only[List.filterMap,List.foldl,f6,f7,Act.put,List.setIfInBounds_toArray,List.set_cons_succ,List.set_cons_zero]
    have c18:u.cell? ⟨w.heap.size,18,none⟩=some (.int .i64 r.q.S):=qb1.cell 18 rfl
    have hos1:=hb1.size
    clear f6 f7 kn qb1
    go_upto_region 7 with (at_builtin;refine wpList_append_own _ rfl (.tmp 22) (.tmp 24) 25 rfl W0.heap.size 3 i0 (.int .i64 0) 1 8 Tryz.underlying25 hi hz0 hz1 hz2 rfl (by decide) _ _ _ rfl (ho3.alloc _) ⟨_,0,none⟩ 1 1 [.int .i64 T] rfl rfl (one_new _ _ _) (oOc _ _) (by unfold maxLen;omega) (by omega) (by simp;omega) ?_;intro v5 w5 ho5 hg5 _)
    have hos2:W0.heap.size≤u.heap.size:=hb1.size
    have st:=append_ints hos2 hb1 ho3 ho5 hg5
    have c18:w5.cell? ⟨w.heap.size,18,none⟩=some (.int .i64 r.q.S):=(q0.kept st.1).cell 18 rfl
    have HS:=hdn st
    have HRo:=HR.out
    clear st HR ho3 ho5 hg5 hb1
    by_cases hst:(T==r.q.S)=true
    ·rw[if_pos (eq_of_beq hst)] at HRo
     go_wp2
     subst HRo
     have wf2:∀ z∈ts++[T],(Lit.int .i64 z).wf=true:=fun z hz=>WalkArith.wf_i64 ⟨by have:=hin.out z hz;omega,by have:=hin.out z hz;omega⟩
     obtain⟨a',c',ev,rd'⟩:=oRe (k:=.i64) (zs:=ts++[T]) HS.out.2 rfl wf2 (fun j hj=>ints_at _ j hj)
     have HS':=HS.out
     rw[ev] at HS'
     subst ev
     go_ret2
     exact⟨⟨_,_,rfl,rd',World.ownsRow.mono HS'.2 (by omega)⟩,bTn hb HS'.1⟩
    ·replace hst:(T==r.q.S)=false:=by simpa using hst
     rw[if_neg (by simpa using hst)] at HRo
     go_wp2
     go_roundw
     case rel=>exact⟨ts++[T],HS.out.1,HS.out.2,by simp;omega,hin.out,by rw[←HRo,List.length_append];rfl,own_len HS.out.2⟩
     case measure=>rw[own_len HS.out.2,hv',List.length_append];simp only[List.length_singleton];omega
   all_goals
    rintro b u-hS hv K hK
    first
     | (obtain⟨h1,h2,-⟩:=hv;replace h1:=show b.tmps.getD _ undef=_ from h1;replace h2:=show b.tmps.getD _ undef=_ from h2)
     | (obtain⟨h1,-⟩:=hv;replace h1:=show b.tmps.getD _ undef=_ from h1)
     | skip
    dsimp only
    go_simp
    exact hK _ _ (Below.refl _ _) hS rfl
  ·obtain rfl:ts.length=L:=by omega
   rw[Nat.sub_self] at ht
   have E:ts=R:=ht
   subst E
   go_wp2
   go_ret2
   exact⟨⟨_,_,rfl,rd,World.ownsRow.mono ho (by omega)⟩,bTn hb hbr⟩
def embZ (r:Rq)(ps:List Int):List Int:=(List.range r.M.D).map (meanF (outF r.M (tokF ps)) r.q.n)
theorem embZ_len (r:Rq)(ps:List Int):(embZ r ps).length=r.M.D:=by simp[embZ]
theorem embZ_wf (r:Rq)(ps:List Int):∀ z∈embZ r ps,(Lit.int .i64 z).wf=true:=fun z hz=>by
 obtain⟨y,_,rfl⟩:=List.mem_map.1 hz
 exact wCz _
theorem vector_call (r:Rq)(Y U D Ya:Nat→Nat→SL)(ps:List Int)(K:MdOk r.M)(w:World)(h:RqAt w r Y U D Ya ps)(hp:0<r.q.n)(hB:runB r.M ps r.q.n=true) :
  Calls Tryz.prog 19 #[r.w] w fun e w'=>(∃ a c,e=.returned (.tuple #[.slice a r.M.D c,.int .i64 0])∧Reads .i64 w' a r.M.D (embZ r ps))∧Below w.heap.size w w':=by
 have hb:=bNw (Below.refl w.heap.size w) (.cells r.cs 55)
 have q0:=Blk.new 55 w r.cs
 have hE:=K.none_bad
 obtain⟨i0,hi,hz0,hz1,hz2⟩:=info_parts info3
 have hD:r.M.D*8≤281474976710656:=by have:=K.fit.d1;omega
 have kr:=fun (W:World) (hb:Below w.heap.size w W)=>mrun_yes r.M r.E r.L r.N r.O Y U D r.La Ya hE W (h.m.below hb) (h.a.below hb) r.q.a r.q.n r.q.c ps (h.q.t.below hb) hB
 have ev:Even r.q.n (outF r.M (tokF ps)):=⟨hp,fun i _=>by rw[outF_length,outF_length]⟩
 have km:Hid (∀ (W:World) a c A C,Grid W a r.q.n A C (outF r.M (tokF ps))→Calls Tryz.prog 42 #[.slice a r.q.n c] W fun e w'=>(∃ a c,e=.returned (.tuple #[.slice a r.M.D c,.int .i64 0])∧Reads .i64 w' a r.M.D (embZ r ps))∧Below W.heap.size W w'):=show ∀ (W:World) a c A C,_ from fun W a c A C hg=>by
  have:=mean_even a r.q.n c A C (outF r.M (tokF ps)) W hg ev (by rw[outF_length];exact hD)
  rw[outF_length] at this
  exact this
 have HW:Hid (∀ z∈embZ r ps,(Lit.int .i64 z).wf=true):=embZ_wf r ps
 have HL:Hid ((embZ r ps).length=r.M.D):=embZ_len r ps
 obtain⟨V,eV⟩:∃ V,embZ r ps=V:=⟨_,rfl⟩
 rw[eV] at km HW HL ⊢
 obtain⟨d,ed⟩:∃ d,r.M.D=d:=⟨_,rfl⟩
 rw[ed] at km HL hD ⊢
 obtain⟨W0,eW⟩:∃ W0,w.alloc (.cells r.cs 55)=W0:=⟨_,rfl⟩
 rw[eW] at hb q0
 have EW:=hdn eW
 clear eW eV ed h ev hB
 go_enter Tryz.func19,Tryz.ntmps19
 go_upto_region 1 with fail
 rw[EW.out]
 clear EW
 refine wp_region_tab0 (by kernel_rfl) rfl (fun W=>Below w.heap.size w W∧Blk 55 W w.heap.size r.cs) [.eq (.pointer (some ⟨w.heap.size,0,none⟩)),.eq r.mw,.eq (.pointer (some ⟨w.heap.size,12,none⟩)),.eq r.aw,.eq (.pointer (some ⟨w.heap.size,15,none⟩)),.eq (.pointer (some ⟨w.heap.size,16,none⟩)),.eq (.slice r.q.a r.q.n r.q.c),.run r.q.n (outF r.M (tokF ps)),.run r.q.n (outF r.M (tokF ps)),.any,.slice r.q.n (outF r.M (tokF ps)),.eq (.int .i64 0),.any,.slice r.q.n (outF r.M (tokF ps)),.eq (.int .i64 0)] ⟨hb,q0⟩ ⟨?_,?_,?_,?_,?_,?_,?_,?c7,?p8,?x9,?x10,?x11,?p12,?p13,?_,trivial⟩ ?fin
 case c7 =>
  rintro b u - ⟨hb,qb⟩ ⟨h1,h2,h3,-⟩ K hK
  replace h1:=show b.tmps.getD 13 undef=r.mw from h1
  replace h2:=show b.tmps.getD 15 undef=r.aw from h2
  replace h3:=show b.tmps.getD 18 undef=.slice r.q.a r.q.n r.q.c from h3
  dsimp only
  go_wp2_with (go_at_call 41;refine (kr _ hb).mono ?_;rintro e W1 ⟨⟨u1,k1,u2,k2,A1,A2,C1,C2,rfl,g1,g2,-⟩,h⟩;exact hK _ _ h ⟨bTn hb h,qb.kept h⟩ ⟨_,_,_,_,_,rfl,g2⟩)
 case p8 =>
  rintro b u-hS ⟨h1,-⟩ K hK
  exact hK _ _ (Below.refl _ _) hS h1
 case p12 =>
  rintro b u-hS ⟨h1,-⟩ K hK
  exact hK _ _ (Below.refl _ _) hS trivial
 case p13 =>
  rintro b u-hS ⟨h1,-⟩ K hK
  exact hK _ _ (Below.refl _ _) hS h1
 case x9 =>
  rintro b u-hS ⟨h1,-⟩ K hK
  obtain⟨x,a,c,A,C,h1,g1⟩:=h1
  dsimp only
  go_simp
  exact hK _ _ (Below.refl _ _) hS trivial
 case x10 =>
  rintro b u-hS ⟨h1,-⟩ K hK
  obtain⟨x,a,c,A,C,h1,g1⟩:=h1
  dsimp only
  go_simp
  exact hK _ _ (Below.refl _ _) hS ⟨_,_,_,_,rfl,g1⟩
 case x11 =>
  rintro b u-hS ⟨h1,-⟩ K hK
  obtain⟨x,a,c,A,C,h1,g1⟩:=h1
  dsimp only
  go_simp
  exact hK _ _ (Below.refl _ _) hS rfl
 case fin =>
  rintro g u ⟨hb,qb⟩ ⟨-,-,-,-,-,-,-,-,-,-,-,-,-,f7,f8,-⟩
  replace f8:=show g 6=.int .i64 0 from f8
  obtain⟨oa,oc,oA,oC,f7,hg⟩:=f7
  replace f7:=show g 5=.slice oa r.q.n oc from f7
  simp only[List.filterMap,List.foldl,f7,f8,Act.put,List.setIfInBounds_toArray,List.set_cons_succ,List.set_cons_zero]
  clear f7 f8 kr qb q0
  have km:=km.out u oa oc oA oC hg
  clear hg
  go_upto_region 7 with (go_at_call 42;refine km.mono ?_;rintro e W1 ⟨⟨ma,mc,rfl,hr⟩,hb1⟩;replace hb1:=bTn hb hb1;have HR:=hdn hr;clear km hr)
  have hos:=hb1.size
  go_wp2_with (at_make;(refine wpList_make_full _ rfl (.tmp 35) (.tmp 35) 25 rfl w.heap.size 3 i0 (.int .i64 0) 1 Tryz.underlying25 hi hz0 hz1 .i64 .i64 _ _ d rfl rfl rfl rfl (by rw[hz2];omega) (by unfold maxLen;omega) hb1.size ?_;intro w1 hown hgrow))
  have hbel:Below w.heap.size w w1:=hb1.grown hgrow hos (fun k h=>by cases h)
  have rd1:=HR.out.below (show Below W1.heap.size W1 w1 from (Below.refl _ _).grown hgrow (Nat.le_refl _) (fun k h=>by cases h))
  obtain⟨g2,eg⟩:∃ g2,W1.heap.size=g2:=⟨_,rfl⟩
  have hlt1:∀ x,ma=some x→0<d→x.block<g2:=fun x hx h0=>by subst hx;rw[←eg];exact World.block_lt_of_cell? _ _ (HR.out.cell x rfl 0 h0)
  rw[eg] at hown hos ⊢
  clear eg hgrow hb1 HR
  go_wp2
  go_loopw [39] (fun i wr=>∃ k:Nat,k≤d∧i=.int .i64 k∧Below w.heap.size w wr∧Reads .i64 wr ma d V∧∃ cs,wr.ownsRow w.heap.size 3 1 (.slice (some ⟨g2,0,none⟩) d d) d cs∧∀ j,j<k→cs[j]? = some (.int .i64 (V.getD j 0))) (fun i _=>d-(intOf i).toNat)
  case atStart=>exact⟨0,Nat.zero_le _,rfl,hbel,rd1,_,hown,fun j hj=>by omega⟩
  case round =>
   clear hown hbel rd1
   obtain⟨k,hk,rfl,hbr,rd,cs,ho,hcs⟩:=hrel
   by_cases hlt:k<d
   ·obtain⟨x,rfl⟩:=rd.some_ (by omega)
    have cx:=rd.cell x rfl k hlt
    have hlen:=oLe ho
    have froz:=ho.frozenAt k
    have cc:=ho.cellAt k (by omega)
    have cc':wr.cell? ⟨g2,k,none⟩=some (cs.getD k (.int .i64 0)):=by rw[cc];simp[List.getD,hlen,hlt]
    have xb:=hlt1 x rfl (by omega)
    have R':Hid (Below w.heap.size w (wr.setCell ⟨g2,k,none⟩ (.int .i64 (V.getD k 0)))∧Reads .i64 (wr.setCell ⟨g2,k,none⟩ (.int .i64 (V.getD k 0))) (some x) d V∧∃ ds',(wr.setCell ⟨g2,k,none⟩ (.int .i64 (V.getD k 0))).ownsRow w.heap.size 3 1 (.slice (some ⟨g2,0,none⟩) d d) d ds'∧∀ i,i<k+1→ds'[i]? = some (.int .i64 (V.getD i 0))) :=
     ⟨hbr.setCell hos _,rd.setOff (show g2≠x.block by omega) _,_,(ho.stored k _).1,set_step (F:=fun i=>Value.int .i64 (V.getD i 0)) hlen hlt rfl hcs⟩
    obtain⟨Z,eZ⟩:∃ Z,V.getD k 0=Z:=⟨_,rfl⟩
    rw[eZ] at cx R'
    obtain⟨Z2,eZ2⟩:∃ Z2,cs.getD k (.int .i64 0)=Z2:=⟨_,rfl⟩
    rw[eZ2] at cc'
    clear eZ eZ2 cc hcs ho hlen hbr hi hz0 hz1 hz2
    go_wp2
    go_roundw
    case rel=>exact⟨k+1,by omega,by go_num,R'.out⟩
    case measure=>simp[intOf];omega
   ·obtain rfl:k=d:=by omega
    have fin:=oRa (k:=.i64) (zs:=V) ho HL.out HW.out hcs
    clear hcs
    go_wp2
    go_ret2
    exact⟨⟨_,_,rfl,fin⟩,hbr⟩
 all_goals
  rintro b u - ⟨hb,qb⟩ hv K hK
  obtain⟨c0,c1,c2,c3,c4,c5,c6,c7,c8,c9,c10,c11,c12,c13,c14,c15,c16,c17,c18,c19,c20,c21,c22,c23⟩:=qb.rq
  first
   | (obtain⟨h1,h2,h3,-⟩:=hv;replace h1:=show b.tmps.getD _ undef=_ from h1;replace h2:=show b.tmps.getD _ undef=_ from h2;replace h3:=show b.tmps.getD _ undef=_ from h3)
   | (obtain⟨h1,h2,-⟩:=hv;replace h1:=show b.tmps.getD _ undef=_ from h1;replace h2:=show b.tmps.getD _ undef=_ from h2)
   | (obtain⟨h1,-⟩:=hv;replace h1:=show b.tmps.getD _ undef=_ from h1)
   | skip
  dsimp only
  go_simp
  exact hK _ _ (Below.refl _ _) ⟨hb,qb⟩ rfl
theorem wpList_build_of {P:Program}{Q:Exit→Act→World→Prop}{ops:Array Oper}{rest:List Oper}{o:Oper}{a:Act}{w:World}(hg:o.guard=none)(t:TypeId)(parts:Array (Nat × Operand))(ho:o.op=.build t parts)(cs:Array Value)
  (hf:P.built t (parts.map fun (i,x)=>(i,a.eval x)).toList=some cs) (h:wpList P ops Q rest (a.put o.dst (.agg cs)) w):wpList P ops Q (o :: rest) a w :=
 wpList_build hg t parts ho (by rw[hf];rfl) (by rw[hf];exact h)
theorem setRow_blk {t:TypeId}{w:World}{g:Nat}{old cs:Array Value}(h:Blk t w g old):Blk t (w.setRow g cs) g cs:=setRow_heap w g old cs t _ h
theorem own_capN {w:World}{B:Nat}{e:TypeId}{a:Option Addr}{n m c:Nat}{cs:List Value}(h:w.ownsRow B e 1 (.slice a n c) m cs):n≤c:=by
 rcases h.2 with⟨hv,-⟩|⟨g,cap,cur,hv,_,hg,hn,hm,hs,ht⟩
 ·cases hv;exact Nat.le_refl _
 ·cases hv;omega
theorem own_fromN {w:World}{B:Nat}{e:TypeId}{a:Option Addr}{n m c:Nat}{cs:List Value}(h:w.ownsRow B e 1 (.slice a n c) m cs){x:Addr}(hx:a=some x):B≤x.block:=by
 subst hx
 rcases h.2 with⟨hv,-⟩|⟨g,cap,cur,hv,hB,hg,hn,hm,hs,ht⟩
 ·cases hv
 ·cases hv;exact hB
structure ReqOk (r:Rq) (ps:List Int):Prop where
 K:MdOk r.M
 p0:0<ps.length
 pv:∀ j,j<ps.length→0≤ps.getD j 0∧ps.getD j 0<r.M.v
 emb:r.q.k=4→r.q.n≤24
 kd:r.q.k=1∨r.q.k=2∨r.q.k=3∨r.q.k=4
 len:r.q.k≠4→1≤r.q.L∧(r.q.n:Int)+r.q.L≤24
 smp:r.q.k=2→isN r.q.H=false
theorem req_ok {r:Rq}{ps:List Int}(h:reqE r ps=0):ReqOk r ps:=by
 unfold reqE at h
 by_cases hE:badE r.M=0
 case neg=>rw[if_neg hE] at h;exact absurd h hE
 rw[if_pos hE] at h
 unfold checkZ at h
 by_cases hc:(r.cf.ok && (promptZ r.cf ps && kindZ r.cf r.q))=true
 case neg=>rw[if_neg hc] at h;exact absurd h (by decide)
 rw[if_pos hc] at h
 by_cases hl:longZ r.q=true
 case pos=>rw[if_pos hl] at h;exact absurd h (by decide)
 simp only[Bool.and_eq_true] at hc
 obtain⟨-,hp,hk⟩:=hc
 unfold promptZ at hp
 simp only[Bool.and_eq_true,decide_eq_true_eq,List.all_eq_true] at hp
 unfold kindZ choiceZ endZ triesZ at hk
 unfold longZ at hl
 refine⟨badE_ok hE,hp.1,fun j hj=>?_,fun h4=>?_,?_,fun h4=>?_,fun h2=>?_⟩
 ·have e:ps.getD j 0=ps[j]:=by simp[List.getD,hj]
  rw[e]
  exact hp.2 _ (List.getElem_mem hj)
 ·rw[if_pos h4] at hl
  simp only[decide_eq_true_eq] at hl
  omega
 ·by_cases h4:r.q.k=4
  ·exact .inr (.inr (.inr h4))
  ·rw[if_neg h4] at hk
   by_cases h3:r.q.k=3
   ·exact .inr (.inr (.inl h3))
   ·rw[if_neg h3] at hk
    by_cases h2:r.q.k=2
    ·exact .inr (.inl h2)
    ·rw[if_neg h2] at hk
     by_cases h1:r.q.k=1
     ·exact .inl h1
     ·rw[if_neg h1] at hk
      exact absurd hk (by decide)
 ·rw[if_neg h4] at hl hk
  simp only[decide_eq_true_eq] at hl
  refine⟨?_,by omega⟩
  split at hk
  ·simp only[Bool.and_eq_true,decide_eq_true_eq] at hk
   exact hk.2.1
  ·split at hk
   ·simp only[Bool.and_eq_true,decide_eq_true_eq] at hk
    exact hk.2.1
   ·split at hk
    ·simp only[Bool.and_eq_true,decide_eq_true_eq] at hk
     exact hk.1
    ·exact absurd hk (by decide)
 ·rw[if_neg (by omega),if_neg (by omega),if_pos h2] at hk
  simp only[Bool.and_eq_true,Bool.not_eq_true'] at hk
  exact hk.1.2.2
def ansT (r:Rq)(ps tb:List Int):List Int:=if reqE r ps=0 then (if r.q.k=4 then [] else if r.q.k=3 then tb else tokensZ r ps) else []
def ansV (r:Rq)(ps:List Int):List Int:=if reqE r ps=0 then (if r.q.k=4 then embZ r ps else []) else []
def Ent.numc (B n:Nat)(zs:List Int):Ent:=.of (fun q u=>∃ a c,q=.slice a n c∧Reads .i64 u a n zs∧n≤c∧∀ x:Addr,a=some x→B≤x.block) (fun _ _ _ hb ⟨a,c,e,h,g⟩=>⟨a,c,e,h.below hb,g⟩)
def Ent.rowc (B n:Nat)(zs:List Int):Ent:=.of (fun q u=>∃ a c,q=.tuple #[.slice a n c,.int .i64 0]∧Reads .i64 u a n zs∧n≤c∧∀ x:Addr,a=some x→B≤x.block) (fun _ _ _ hb ⟨a,c,e,h,g⟩=>⟨a,c,e,h.below hb,g⟩)
def AnsAt (B:Nat)(T V:List Int)(E:Int)(e:Ending)(w:World):Prop:=∃ ta tc va vc,e=.returned (.tuple #[.slice ta T.length tc,.slice va V.length vc,.int .i64 E])∧Reads .i64 w ta T.length T∧Reads .i64 w va V.length V∧T.length≤tc∧∀ x:Addr,ta=some x→B≤x.block
theorem answer_call (r:Rq)(Y U D Ya:Nat→Nat→SL)(ps tb:List Int)(w:World)(h:RqAt w r Y U D Ya ps)(kb:reqE r ps=0→r.q.k=3→∀ W,Below w.heap.size w W→Calls Tryz.prog 20 #[r.w] W fun e w'=>(∃ a c,e=.returned (.tuple #[.slice a tb.length c,.int .i64 0])∧Reads .i64 w' a tb.length tb∧tb.length≤c∧∀ x:Addr,a=some x→w.heap.size≤x.block)∧Below W.heap.size W w') :
  Calls Tryz.prog 9 #[r.mw,r.aw,r.q.w] w fun e w'=>AnsAt w.heap.size (ansT r ps tb) (ansV r ps) (reqE r ps) e w'∧Below w.heap.size w w':=by
 have kc:=fun W (hb:Below w.heap.size w W)=>rqcheck_call r Y U D Ya ps W (h.below hb)
 have kv:Hid (reqE r ps=0→r.q.k=4→∀ W,Below w.heap.size w W→Calls Tryz.prog 19 #[r.w] W fun e w'=>(∃ a c,e=.returned (.tuple #[.slice a (ansV r ps).length c,.int .i64 0])∧Reads .i64 w' a (ansV r ps).length (ansV r ps))∧Below W.heap.size W w'):=show reqE r ps=0→_ from fun h0 h4 W hb=>by
  have o:=req_ok h0
  have e:ansV r ps=embZ r ps:=by unfold ansV;rw[if_pos h0,if_pos h4]
  have hn:ps.length=r.q.n:=h.q.t.len
  have hB:=run_joined (M:=r.M) (ps:=ps) (ts:=[]) o.pv (by simp) (by have:=o.emb h4;simp;omega)
  rw[List.append_nil,List.length_nil,Nat.add_zero,hn] at hB
  rw[e,embZ_len]
  exact vector_call r Y U D Ya ps o.K W (h.below hb) (by have:=o.p0;omega) hB
 have kt:Hid (reqE r ps=0→r.q.k≠4→r.q.k≠3→∀ W,Below w.heap.size w W→Calls Tryz.prog 21 #[r.w] W fun e w'=>(∃ a c,e=.returned (.tuple #[.slice a (ansT r ps tb).length c,.int .i64 0])∧Reads .i64 w' a (ansT r ps tb).length (ansT r ps tb)∧(ansT r ps tb).length≤c∧∀ x:Addr,a=some x→w.heap.size≤x.block)∧Below W.heap.size W w'):=show reqE r ps=0→_ from fun h0 h4 h3 W hb=>by
  have o:=req_ok h0
  have e:ansT r ps tb=tokensZ r ps:=by unfold ansT;rw[if_pos h0,if_neg h4,if_neg h3]
  have hn:ps.length=r.q.n:=h.q.t.len
  have hk:r.draws:=by
   rcases o.kd with k|k|k|k
   ·exact .inl k
   ·exact .inr ⟨by simp[k],o.smp k,h.q.ws⟩
   ·exact absurd k h3
   ·exact absurd k h4
  have hv:=o.K.fit.v1
  rw[e]
  refine (tokens_call r Y U D Ya ps o.K W (h.below hb) (by have:=o.p0;omega) o.pv hk (by omega) (o.len h4)).mono fun e w' hh=>⟨?_,hh.2⟩
  obtain⟨a,c,he,hr,ho⟩:=hh.1
  exact⟨a,c,he,hr,own_capN ho,fun x hx=>Nat.le_trans hb.size (own_fromN ho hx)⟩
 have kb':Hid (reqE r ps=0→r.q.k=3→∀ W,Below w.heap.size w W→Calls Tryz.prog 20 #[r.w] W fun e w'=>(∃ a c,e=.returned (.tuple #[.slice a (ansT r ps tb).length c,.int .i64 0])∧Reads .i64 w' a (ansT r ps tb).length (ansT r ps tb)∧(ansT r ps tb).length≤c∧∀ x:Addr,a=some x→w.heap.size≤x.block)∧Below W.heap.size W w'):=show reqE r ps=0→_ from fun h0 h3 W hb=>by
  have e:ansT r ps tb=tb:=by unfold ansT;rw[if_pos h0,if_neg (by omega),if_pos h3]
  rw[e]
  exact kb h0 h3 W hb
 have nT:Hid (reqE r ps≠0∨r.q.k=4→ansT r ps tb=[]):=show _→_ from fun hh=>by
  unfold ansT
  rcases hh with hh|hh
  ·rw[if_neg hh]
  ·rw[if_pos hh,ite_self]
 have nV:Hid (reqE r ps≠0∨r.q.k≠4→ansV r ps=[]):=show _→_ from fun hh=>by
  unfold ansV
  rcases hh with hh|hh
  ·rw[if_neg hh]
  ·rw[if_neg hh,ite_self]
 obtain⟨R1,e1⟩:∃ R1,ansT r ps tb=R1:=⟨_,rfl⟩
 obtain⟨R2,e2⟩:∃ R2,ansV r ps=R2:=⟨_,rfl⟩
 obtain⟨EE,e3⟩:∃ EE,reqE r ps=EE:=⟨_,rfl⟩
 rw[e1] at kt kb' nT ⊢
 rw[e2] at kv nV ⊢
 rw[e3] at kc kv kt kb' nT nV ⊢
 clear e1 e2 e3 kb h
 have q1:Blk 34 (((w.alloc (.cells r.mc 34)).alloc (.cells r.ac 37)).alloc (.cells r.q.cs 28)) w.heap.size r.mc:=(Blk.new 34 w r.mc).kept (bNw (bNw (Below.refl _ _) _) _)
 have q2:Blk 37 (((w.alloc (.cells r.mc 34)).alloc (.cells r.ac 37)).alloc (.cells r.q.cs 28)) (w.heap.size+1) r.ac:=(Blk.new_at 37 (w.alloc _) _ _ (by simp)).kept (bNw (Below.refl _ _) _)
 have q3:Blk 28 (((w.alloc (.cells r.mc 34)).alloc (.cells r.ac 37)).alloc (.cells r.q.cs 28)) (w.heap.size+1+1) r.q.cs:=Blk.new_at 28 ((w.alloc _).alloc _) _ _ (by simp)
 have hb:Below w.heap.size w (((w.alloc (.cells r.mc 34)).alloc (.cells r.ac 37)).alloc (.cells r.q.cs 28)):=bNw (bNw (bNw (Below.refl _ _) _) _) _
 have hs:(((w.alloc (.cells r.mc 34)).alloc (.cells r.ac 37)).alloc (.cells r.q.cs 28)).heap.size=w.heap.size+3:=show (((w.heap.push _).push _).push _).size=_ by simp
 obtain⟨W0,eW⟩:∃ W0,((w.alloc (.cells r.mc 34)).alloc (.cells r.ac 37)).alloc (.cells r.q.cs 28)=W0:=⟨_,rfl⟩
 rw[eW] at hb q1 q2 q3 hs
 have EW:=hdn eW
 clear eW
 go_enter Tryz.func9,Tryz.ntmps9
 go_upto_region 1 with fail
 rw[EW.out]
 clear EW
 refine wp_region_list ?_
 refine wpList_load_row rfl 34 (.tmp 3) rfl w.heap.size rfl 34 r.mc (0,0) _ q1 Tryz.underlying34 rfl rfl ?_
 refine wpList_load_row rfl 37 (.tmp 4) rfl (w.heap.size+1) rfl 37 r.ac (0,0) _ q2 Tryz.underlying37 rfl rfl ?_
 refine wpList_load_row rfl 28 (.tmp 5) rfl (w.heap.size+1+1) rfl 28 r.q.cs (0,0) _ q3 Tryz.underlying28 rfl rfl ?_
 refine wpList_build_of rfl 55 _ rfl r.cs (by kernel_rfl) ?_
 refine wpList_plain rfl fun K hK=>?_
 dsimp only
 go_simp
 refine hK _ _ ?_
 obtain⟨old,eo⟩:∃ old:Array Value,old=#[.int .i64 0,.int .i64 0,.int .i64 0,.int .i64 0,.int .i64 0,.int .i64 0,.int .i64 0,.int .i64 0,.slice none 0 0,.slice none 0 0,.slice none 0 0,.slice none 0 0,.int .i64 0,.int .i64 0,.slice none 0 0,.int .i64 0,.slice none 0 0,.int .i64 0,.int .i64 0,.int .u64 0,.int .i64 0,.float .f64 0,.int .i64 0,.int .i64 0]:=⟨_,rfl⟩
 rw[←eo]
 refine wpList_store_row rfl 55 (.tmp 9) (.tmp 20) rfl (w.heap.size+3) r.cs rfl rfl 55 old (Blk.new_at 55 W0 old _ hs.symm) rfl (by rw[eo];rfl) (by kernel_rfl) ?_
 have q0:=setRow_blk (cs:=r.cs) (Blk.new_at 55 W0 old _ hs.symm)
 have hb1:=below_setRow (bNw hb (.cells old 55)) (show w.heap.size≤w.heap.size+3 by omega) r.cs
 have q5:Blk 28 ((W0.alloc (.cells old 55)).setRow (w.heap.size+3) r.cs) (w.heap.size+1+1) r.q.cs:=(setRow_other _ _ _ _ (by omega)).trans (q3.kept (bNw (Below.refl _ _) _))
 obtain⟨W1,eW1⟩:∃ W1,(W0.alloc (.cells old 55)).setRow (w.heap.size+3) r.cs=W1:=⟨_,rfl⟩
 rw[eW1] at q0 hb1 q5
 rw[eW1]
 clear eW1 hb q1 q2 q3
 go_upto_region 2 with fail
 refine wp_region_tab0 (by kernel_rfl) rfl (fun W=>Below w.heap.size w W∧Blk 55 W (w.heap.size+3) r.cs∧Blk 28 W (w.heap.size+1+1) r.q.cs) [.eq r.w,.eq (.int .i64 EE),.eq (.int .i64 EE)] ⟨hb1,q0,q5⟩ ⟨?l0,?c0,?p0,trivial⟩ ?f0
 case l0 =>
  rintro b u - ⟨hb,qb,qq⟩ ⟨h1,-⟩ K hK
  exact ask_load rfl h1 qb Tryz.underlying55 rfl rfl (hK _ _ (Below.refl _ _) ⟨hb,qb,qq⟩ rfl)
 case c0 =>
  rintro b u - ⟨hb,qb,qq⟩ ⟨h1,-⟩ K hK
  replace h1:=show b.tmps.getD 21 undef=r.w from h1
  dsimp only
  go_wp2_with (go_at_call 18;refine (kc _ hb).mono ?_;rintro e W1 ⟨rfl,h⟩;exact hK _ _ h ⟨bTn hb h,qb.kept h,qq.kept h⟩ rfl)
 case p0 =>
  rintro b u-hS ⟨h1,-⟩ K hK
  exact hK _ _ (Below.refl _ _) hS h1
 rintro g u ⟨hb,qb,qq⟩ ⟨-,-,f1,-⟩
 replace f1:=show g 10=.int .i64 EE from f1
 simp only[List.filterMap,List.foldl,f1,Act.put,List.setIfInBounds_toArray,List.set_cons_succ,List.set_cons_zero]
 clear f1 kc q0 q5 hb1
 by_cases n1:EE=0
 case neg =>
  have t1:(EE==0)=false:=by simpa using n1
  obtain rfl:=nT.out (.inl n1)
  obtain rfl:=nV.out (.inl n1)
  go_wp2
  go_ret3
  exact⟨⟨none,0,none,0,rfl,Reads.nil _ _,Reads.nil _ _,Nat.le_refl _,fun x hx=>by cases hx⟩,hb⟩
 subst n1
 have c0:u.cell? ⟨w.heap.size+1+1,0,none⟩=some (.int .i64 r.q.k):=qq.cell 0 rfl
 by_cases n4:r.q.k=4
 ·rw[n4] at c0
  obtain rfl:=nT.out (.inr n4)
  go_upto_region 7 with fail
  refine wp_region_tab0 (by kernel_rfl) rfl (fun W=>Below w.heap.size w W∧Blk 55 W (w.heap.size+3) r.cs∧Blk 28 W (w.heap.size+1+1) r.q.cs) [.eq r.w,.row R2.length R2,.row R2.length R2,.nums R2.length R2,.eq (.int .i64 0),.nums R2.length R2,.eq (.int .i64 0)] ⟨hb,qb,qq⟩ ⟨?lv,?cv,?mv,?xv,?yv,?nv,?ov,trivial⟩ ?fv
  case lv =>
   rintro b u - ⟨hb,qb,qq⟩ ⟨h1,-⟩ K hK
   exact ask_load rfl h1 qb Tryz.underlying55 rfl rfl (hK _ _ (Below.refl _ _) ⟨hb,qb,qq⟩ rfl)
  case cv =>
   rintro b u - ⟨hb,qb,qq⟩ ⟨h1,-⟩ K hK
   replace h1:=show b.tmps.getD 31 undef=r.w from h1
   dsimp only
   go_wp2_with (go_at_call 19;refine (kv.out rfl n4 _ hb).mono ?_;rintro e W1 ⟨⟨a',c',rfl,r'⟩,h⟩;exact hK _ _ h ⟨bTn hb h,qb.kept h,qq.kept h⟩ ⟨_,_,rfl,r'⟩)
  case mv =>
   rintro b u-hS ⟨h1,-⟩ K hK
   exact hK _ _ (Below.refl _ _) hS h1
  case nv =>
   rintro b u-hS ⟨h1,-⟩ K hK
   exact hK _ _ (Below.refl _ _) hS h1
  case ov =>
   rintro b u-hS ⟨h1,-⟩ K hK
   exact hK _ _ (Below.refl _ _) hS h1
  case xv =>
   rintro b u-hS ⟨h1,-⟩ K hK
   obtain⟨a,c,h1,g1⟩:=h1
   dsimp only
   go_simp
   exact hK _ _ (Below.refl _ _) hS ⟨_,_,rfl,g1⟩
  case yv =>
   rintro b u-hS ⟨h1,-⟩ K hK
   obtain⟨a,c,h1,g1⟩:=h1
   dsimp only
   go_simp
   exact hK _ _ (Below.refl _ _) hS rfl
  case fv =>
   rintro g u ⟨hb,qb,qq⟩ ⟨-,-,-,-,-,f6,f7,-⟩
   obtain⟨ra,rc,f6,rd⟩:=f6
   replace f6:=show g 11=.slice ra _ rc from f6
   replace f7:=show g 12=.int .i64 0 from f7
   simp only[List.filterMap,List.foldl,f6,f7,Act.put,List.setIfInBounds_toArray,List.set_cons_succ,List.set_cons_zero]
   clear f6 f7
   go_wp2
   go_ret3
   exact⟨⟨none,0,ra,rc,rfl,Reads.nil _ _,rd,Nat.le_refl _,fun x hx=>by cases hx⟩,hb⟩
 obtain rfl:=nV.out (.inr n4)
 have t4:(r.q.k==4)=false:=by simpa using n4
 by_cases n3:r.q.k=3
 ·rw[n3] at c0
  clear t4
  go_upto_region 10 with fail
  refine wp_region_tab0 (by kernel_rfl) rfl (fun W=>Below w.heap.size w W∧Blk 55 W (w.heap.size+3) r.cs∧Blk 28 W (w.heap.size+1+1) r.q.cs) [.eq r.w,.rowc w.heap.size R1.length R1,.rowc w.heap.size R1.length R1,.numc w.heap.size R1.length R1,.eq (.int .i64 0),.numc w.heap.size R1.length R1,.eq (.int .i64 0)] ⟨hb,qb,qq⟩ ⟨?lb,?cb,?mb,?xb,?yb,?nb,?ob,trivial⟩ ?fb
  case lb =>
   rintro b u - ⟨hb,qb,qq⟩ ⟨h1,-⟩ K hK
   exact ask_load rfl h1 qb Tryz.underlying55 rfl rfl (hK _ _ (Below.refl _ _) ⟨hb,qb,qq⟩ rfl)
  case cb =>
   rintro b u - ⟨hb,qb,qq⟩ ⟨h1,-⟩ K hK
   replace h1:=show b.tmps.getD 40 undef=r.w from h1
   dsimp only
   go_wp2_with (go_at_call 20;refine (kb'.out rfl n3 _ hb).mono ?_;rintro e W1 ⟨⟨a',c',rfl,r'⟩,h⟩;exact hK _ _ h ⟨bTn hb h,qb.kept h,qq.kept h⟩ ⟨_,_,rfl,r'⟩)
  case mb =>
   rintro b u-hS ⟨h1,-⟩ K hK
   exact hK _ _ (Below.refl _ _) hS h1
  case nb =>
   rintro b u-hS ⟨h1,-⟩ K hK
   exact hK _ _ (Below.refl _ _) hS h1
  case ob =>
   rintro b u-hS ⟨h1,-⟩ K hK
   exact hK _ _ (Below.refl _ _) hS h1
  case xb =>
   rintro b u-hS ⟨h1,-⟩ K hK
   obtain⟨a,c,h1,g1⟩:=h1
   dsimp only
   go_simp
   exact hK _ _ (Below.refl _ _) hS ⟨_,_,rfl,g1⟩
  case yb =>
   rintro b u-hS ⟨h1,-⟩ K hK
   obtain⟨a,c,h1,g1⟩:=h1
   dsimp only
   go_simp
   exact hK _ _ (Below.refl _ _) hS rfl
  case fb =>
   rintro g u ⟨hb,qb,qq⟩ ⟨-,-,-,-,-,f6,f7,-⟩
   obtain⟨ra,rc,f6,rd⟩:=f6
   replace f6:=show g 13=.slice ra _ rc from f6
   replace f7:=show g 14=.int .i64 0 from f7
   simp only[List.filterMap,List.foldl,f6,f7,Act.put,List.setIfInBounds_toArray,List.set_cons_succ,List.set_cons_zero]
   clear f6 f7
   go_wp2
   go_ret3
   exact⟨⟨ra,rc,none,0,rfl,rd.1,Reads.nil _ _,rd.2⟩,hb⟩
 have t3:(r.q.k==3)=false:=by simpa using n3
 go_upto_region 12 with fail
 refine wp_region_tab0 (by kernel_rfl) rfl (fun W=>Below w.heap.size w W∧Blk 55 W (w.heap.size+3) r.cs∧Blk 28 W (w.heap.size+1+1) r.q.cs) [.eq r.w,.rowc w.heap.size R1.length R1,.rowc w.heap.size R1.length R1,.numc w.heap.size R1.length R1,.eq (.int .i64 0),.numc w.heap.size R1.length R1,.eq (.int .i64 0)] ⟨hb,qb,qq⟩ ⟨?lt,?ct,?mt,?xt,?yt,?nt,?ot,trivial⟩ ?ft
 case lt =>
  rintro b u - ⟨hb,qb,qq⟩ ⟨h1,-⟩ K hK
  exact ask_load rfl h1 qb Tryz.underlying55 rfl rfl (hK _ _ (Below.refl _ _) ⟨hb,qb,qq⟩ rfl)
 case ct =>
  rintro b u - ⟨hb,qb,qq⟩ ⟨h1,-⟩ K hK
  replace h1:=show b.tmps.getD 47 undef=r.w from h1
  dsimp only
  go_wp2_with (go_at_call 21;refine (kt.out rfl n4 n3 _ hb).mono ?_;rintro e W1 ⟨⟨a',c',rfl,r'⟩,h⟩;exact hK _ _ h ⟨bTn hb h,qb.kept h,qq.kept h⟩ ⟨_,_,rfl,r'⟩)
 case mt =>
  rintro b u-hS ⟨h1,-⟩ K hK
  exact hK _ _ (Below.refl _ _) hS h1
 case nt =>
  rintro b u-hS ⟨h1,-⟩ K hK
  exact hK _ _ (Below.refl _ _) hS h1
 case ot =>
  rintro b u-hS ⟨h1,-⟩ K hK
  exact hK _ _ (Below.refl _ _) hS h1
 case xt =>
  rintro b u-hS ⟨h1,-⟩ K hK
  obtain⟨a,c,h1,g1⟩:=h1
  dsimp only
  go_simp
  exact hK _ _ (Below.refl _ _) hS ⟨_,_,rfl,g1⟩
 case yt =>
  rintro b u-hS ⟨h1,-⟩ K hK
  obtain⟨a,c,h1,g1⟩:=h1
  dsimp only
  go_simp
  exact hK _ _ (Below.refl _ _) hS rfl
 case ft =>
  rintro g u ⟨hb,qb,qq⟩ ⟨-,-,-,-,-,f6,f7,-⟩
  obtain⟨ra,rc,f6,rd⟩:=f6
  replace f6:=show g 15=.slice ra _ rc from f6
  replace f7:=show g 16=.int .i64 0 from f7
  simp only[List.filterMap,List.foldl,f6,f7,Act.put,List.setIfInBounds_toArray,List.set_cons_succ,List.set_cons_zero]
  clear f6 f7
  go_wp2
  go_ret3
  exact⟨⟨ra,rc,none,0,rfl,rd.1,Reads.nil _ _,rd.2⟩,hb⟩
def rowsTo (f:Nat→List Int)(L:Nat→Bm):Nat→List (List Int)
 | 0=>[]
 | k+1=>rowsTo f L k++(if (L k).f=true then [] else [f k])
theorem rowsTo_len (f:Nat→List Int)(L:Nat→Bm):∀ k,(rowsTo f L k).length=liveTo L k
 | 0=>rfl
 | k+1=>by
  unfold rowsTo liveTo
  rw[List.length_append,rowsTo_len f L k]
  split<;>rfl
theorem rowsTo_at (f:Nat→List Int)(L:Nat→Bm){k:Nat}(hf:(L k).f=false):∀ n,k<n→(rowsTo f L n).getD (liveTo L k) []=f k
 | 0,h=>by omega
 | n+1,h=>by
  unfold rowsTo
  by_cases e:k=n
  ·subst e
   rw[if_neg (by rw[hf];decide)]
   simp[List.getD,rowsTo_len,List.getElem?_append_right]
  ·have hl:=liveTo_live L (show k<n by omega) hf
   have ih:=rowsTo_at f L hf n (by omega)
   rw[←ih]
   simp[List.getD,List.getElem?_append_left,rowsTo_len,hl]
def openR (r:Rq)(ps:List Int)(L:Nat→Bm)(n i:Nat):List Int:=(rowsTo (fun i=>scoreL r.M (ps++(L i).t)) L n).getD i []
theorem rjOf {w:World}{a:Option Addr}{v:Nat}{zs xs:List Int}(e:xs=zs)(l:zs.length=v)(h:Reads .i64 w a v zs):Reads .i64 w a xs.length xs:=by
 subst e l
 exact h
theorem lrOf {a:Option Addr}{v c:Nat}{zs xs:List Int}(e:xs=zs)(l:zs.length=v):Value.slice a v c=.slice a xs.length c:=by
 subst e l
 rfl
theorem openRows_call (r:Rq)(Y U D Ya:Nat→Nat→SL)(ps:List Int)(K:MdOk r.M)(w:World)(h:RqAt w r Y U D Ya ps)(a0:Option Addr)(n c0:Nat)(A:Nat→Option Addr)(C:Nat→Nat)(L:Nat→Bm)(hB:BmAt w a0 n A C L)(hn:n≤1000)(hp:0<r.q.n)(hR:∀ i,i<n→(L i).f=false→runB r.M (ps++(L i).t) (r.q.n+(L i).t.length)=true) :
  Calls Tryz.prog 82 #[r.w,.slice a0 n c0] w fun e w'=>(∃ a c A1 C1,e=.returned (.tuple #[.slice a (liveTo L n) c,.int .i64 0])∧Grid w' a (liveTo L n) A1 C1 (openR r ps L n)∧liveTo L n≤c)∧Below w.heap.size w w':=by
 have hb0:=bNw (Below.refl w.heap.size w) (.cells r.cs 55)
 have q0:=Blk.new 55 w r.cs
 have eR:∀ k,k<n→(L k).f=false→openR r ps L n (liveTo L k)=scoreL r.M (ps++(L k).t):=fun k hk hf=>rowsTo_at _ L hf n hk
 have lR:∀ k,(((scoreL r.M (ps++(L k).t)).length:Nat):Int)=r.M.v:=fun k=>scoreL_length K _
 obtain⟨R,eRR⟩:∃ R,openR r ps L n=R:=⟨_,rfl⟩
 rw[eRR] at eR ⊢
 clear eRR
 have v1:=K.fit.v1
 obtain⟨j0,hj,hy0,hy1,hy2⟩:=info_parts info70
 obtain⟨W0,eW⟩:∃ W0,w.alloc (.cells r.cs 55)=W0:=⟨_,rfl⟩
 rw[eW] at hb0 q0
 have EW:=hdn eW
 clear eW
 have h1:=h.below hb0
 have B1:=hB.below hb0
 clear h hB
 have bl:w.heap.size<W0.heap.size:=q0.lt
 go_enter Tryz.func82,Tryz.ntmps82
 go_upto_region 1 with fail
 rw[EW.out]
 clear EW
 go_wp2
 go_loopw [6,13] (fun v i wr=>∃ (k:Nat) (A1:Nat→Option Addr) (C1:Nat→Nat),k≤n∧i=.int .i64 k∧OwnGrid W0.heap.size wr v (liveTo L k) A1 C1 R∧Below W0.heap.size W0 wr) (fun _ i _=>n-(intOf i).toNat)
 case atStart=>exact⟨0,fun _=>none,fun _=>0,Nat.zero_le _,rfl,OwnGrid.nil _ _ _ _ _,Below.refl _ _⟩
 case round =>
  obtain⟨k,A1,C1,hk,rfl,og,hbr⟩:=hrel
  by_cases hlt:k<n
  ·have hr:=B1.below hbr
   obtain⟨x,rfl⟩:=B1.some_ (by omega)
   obtain⟨y,ey,d0,d1,d2⟩:=hr.at3 hlt
   have rk:=hr.row k hlt
   have nk:=hr.nil k hlt
   have lk:(k:Int)<(n:Int):=by omega
   have ko:=fun W=>open_call (A k) (L k).t.length (C k) (L k).s (L k).f W
   have qk:=q0.kept hbr
   cases hf:(L k).f with
   | true =>
    have EN:Hid (liveTo L (k+1)=liveTo L k):=by show liveTo L k+_=_;rw[hf];rfl
    rw[hf] at d2 ko
    have bb:=bNw hbr (.cells #[.slice (A k) (L k).t.length (C k),.int .i64 (L k).s,.bool true] 135)
    have OG:=hdn (og.below (bNw (Below.refl wr.heap.size wr) (.cells #[.slice (A k) (L k).t.length (C k),.int .i64 (L k).s,.bool true] 135)))
    clear hf hr qk rk nk og
    go_wp2_with (go_at_call 81;refine (ko _).mono ?_;rintro e w' ⟨rfl,h⟩;replace bb:=bTn bb h;replace OG:=hdn (OG.out.below h);clear h)
    go_roundw
    case rel=>exact⟨k+1,A1,C1,by omega,by go_num,by rw[EN.out];exact OG.out,bb⟩
    case measure=>simp[intOf];omega
   | false =>
    have EN:Hid (liveTo L (k+1)=liveTo L k+1):=by show liveTo L k+_=_;rw[hf];rfl
    have eRk:=eR k hlt hf
    have hRk:=hR k hlt hf
    have lRk:=lR k
    rw[hf] at d2 ko
    have bn:=bNw (Below.refl wr.heap.size wr) (.cells #[.slice (A k) (L k).t.length (C k),.int .i64 (L k).s,.bool false] 135)
    have q8:=Blk.new 135 wr #[.slice (A k) (L k).t.length (C k),.int .i64 (L k).s,.bool false]
    have bb:=bTn hbr bn
    replace og:=og.below bn
    replace qk:=qk.kept bn
    replace rk:=rk.below bn
    have hq:=(h1.below hbr).below bn
    obtain⟨j,ej⟩:∃ j,liveTo L k=j:=⟨_,rfl⟩
    have lj:=liveTo_le L k
    rw[ej] at EN eRk og lj
    have OG:=hdn og
    have RK:=hdn rk
    have HQ:=hdn hq
    have Q8:=hdn q8
    clear hf hr og rk hq q8 bn ej
    go_upto_region 6 with (go_at_call 81;refine (ko _).mono ?_;rintro e W1 ⟨rfl,h⟩;replace bb:=bTn bb h;replace OG:=hdn (OG.out.below h);replace qk:=qk.kept h;replace RK:=hdn (RK.out.below h);replace HQ:=hdn (HQ.out.below h);replace Q8:=hdn (Q8.out.kept h);clear h ko)
    have ks:=askScores_call r Y U D Ya ps K W1 HQ.out (A k) (L k).t.length (C k) (L k).t RK.out nk hp hRk
    have c8:=Q8.out.cell 0 rfl
    have vl:(scoreL r.M (ps++(L k).t)).length=r.M.v.toNat:=by omega
    refine wp_region_list ?_
    refine wpList_load_row rfl 55 (.tmp 2) rfl w.heap.size rfl 55 r.cs (0,0) _ qk Tryz.underlying55 rfl rfl ?_
    go_wp2_with (first
     | (go_at_call 85;refine ks.mono ?_;rintro e W2 ⟨⟨ra,rc,rfl,rr,fr⟩,h⟩;replace bb:=bTn bb h;have o2:=OG.out.below h;have fl:∀ g,u6.ownBlock=some g→g<W1.heap.size:=fun g hg=>(OG.out.own.lt g hg).2;clear ks h c8 qk)
     | (at_builtin;refine wpList_append_where rfl (.tmp 30) (.tmp 32) 67 rfl W0.heap.size 70 j0 (.slice none 0 0) 24 Tryz.underlying67 hj hy0 hy1 hy2 rfl _ j _ rfl (o2.own.alloc _) ⟨_,0,none⟩ 1 (.slice ra r.M.v.toNat rc) rfl (one_new _ _ _) (sliceOne17 _ _ _) (by unfold maxLen;omega) (by omega) (bNw bb _).size ?_;intro v3 W3 ho3 hg3 hs3;have b3:=bNw (Below.refl W2.heap.size W2) (.cells #[.slice ra r.M.v.toNat rc] 70);have lrow:Value.slice ra r.M.v.toNat rc=.slice ra (R j).length rc:=lrOf eRk vl;have rj:Reads .i64 (W2.alloc (.cells #[.slice ra r.M.v.toNat rc] 70)) ra (R j).length (R j):=rjOf eRk vl (rr.below b3);have o3:=(o2.below b3).app lrow rj (fun _ x hx g hg e=>by have:=fr x hx;have:=fl g hg;omega) ho3 hg3 hs3;have bb3:=below_append (bNw bb _) (o2.own.alloc _) hg3;have O3:=hdn o3;clear ho3 hg3 hs3 o2 rr fr fl lrow rj b3 o3))
    go_roundw
    case rel=>exact⟨k+1,_,_,by omega,by go_num,by rw[EN.out];exact O3.out,bb3⟩
    case measure=>simp[intOf];omega
  ·obtain rfl:k=n:=by omega
   have lk:¬((k:Int)<(k:Int)):=by omega
   obtain⟨a,c,rfl,hg⟩:=og.grid
   have hc:=own_capN og.own
   have hbw:=hb0.trans (hbr.mono hb0.size)
   go_wp2
   go_ret2
   refine⟨?_,hbw⟩
   exact⟨_,_,rfl,⟨_,_,hg⟩,hc⟩
structure Bs where
 L:Nat→Bm
 n:Nat
def nextG (r:Rq)(ps:List Int)(b:Bs):List Cd:=growL b.L b.n (openR r ps b.L b.n) (liveTo b.L b.n) r.q.B r.q.L r.q.S
def nextB (r:Rq)(ps:List Int)(b:Bs):Bs:=⟨growB b.L (nextG r ps b),(nextG r ps b).length⟩
def triesN (r:Rq)(ps:List Int):Nat→Bs→Bs
 | 0,b=>b
 | k+1,b=>if anyOpen b.L b.n=true then triesN r ps k (nextB r ps b) else b
def bs0:Bs:=⟨fun _=>b0,1⟩
def triesZ' (r:Rq)(ps:List Int):Bs:=triesN r ps r.q.L.toNat bs0
structure BsOk (r:Rq) (k:Nat) (b:Bs):Prop where
 n0:1≤b.n
 n1:b.n≤4
 len:∀ i,i<b.n→(b.L i).t.length≤k
 tok:∀ i,i<b.n→∀ z∈(b.L i).t,0≤z∧z<r.M.v
 opn:∀ i,i<b.n→(b.L i).f=false→(b.L i).t.length=k∧(k:Int)<r.q.L
theorem bs0_ok {r:Rq}(h:1≤r.q.L):BsOk r 0 bs0:=⟨Nat.le_refl _,by decide,fun i _=>Nat.le_refl _,fun i _ z hz=>(by cases hz),fun i _ _=>⟨rfl,by omega⟩⟩
theorem rowsTo_all (f:Nat→List Int)(L:Nat→Bm):∀ n,∀ l∈rowsTo f L n,∃ i,l=f i
 | 0,l,h=>by cases h
 | n+1,l,h=>by
  unfold rowsTo at h
  rcases List.mem_append.1 h with h|h
  ·exact rowsTo_all f L n l h
  ·split at h
   ·cases h
   ·exact⟨n,List.mem_singleton.1 h⟩
theorem openR_len {r:Rq}{ps:List Int}{L:Nat→Bm}{n i:Nat}(K:MdOk r.M)(hi:i<liveTo L n):(((openR r ps L n i).length:Nat):Int)=r.M.v:=by
 unfold openR
 have hl:i<(rowsTo (fun i=>scoreL r.M (ps++(L i).t)) L n).length:=by rw[rowsTo_len];exact hi
 have e:(rowsTo (fun i=>scoreL r.M (ps++(L i).t)) L n).getD i []=(rowsTo (fun i=>scoreL r.M (ps++(L i).t)) L n)[i]:=by simp[List.getD,hl]
 rw[e]
 obtain⟨j,ej⟩:=rowsTo_all _ L n _ (List.getElem_mem hl)
 rw[ej]
 exact scoreL_length K _
theorem grow_ok {r:Rq}{ps:List Int}{k:Nat}{b:Bs}(K:MdOk r.M)(hB:1≤r.q.B∧r.q.B≤4)(h:BsOk r k b):growE b.L b.n (openR r ps b.L b.n) (liveTo b.L b.n) r.q.B=0:=by
 have v0:=K.fit.v0
 unfold growE
 rw[if_neg (by omega),if_pos]
 unfold befitB
 simp only[Bool.and_eq_true,decide_eq_true_eq,List.all_eq_true]
 refine⟨⟨h.n0,by first|rfl|trivial⟩,fun i hi=>?_⟩
 have:=openR_len (ps:=ps) K (List.mem_range.1 hi)
 omega
theorem cand_some {r:Rq}{ps:List Int}{b:Bs}(K:MdOk r.M)(h:1≤b.n)(len stop:Int):1≤(candTo b.L (openR r ps b.L b.n) len stop b.n).length:=by
 obtain⟨n,hn⟩:∃ n,b.n=n+1:=⟨b.n-1,by omega⟩
 have v0:=K.fit.v0
 rw[hn]
 show 1≤(candTo b.L (openR r ps b.L (n+1)) len stop n++candOf b.L (openR r ps b.L (n+1)) len stop n).length
 rw[List.length_append]
 have:1≤(candOf b.L (openR r ps b.L (n+1)) len stop n).length:=by
  unfold candOf
  split
  ·simp
  ·rename_i hf
   rw[grownTo_length]
   have:=openR_len (ps:=ps) K (liveTo_live b.L (show n<n+1 by omega) (by simpa using hf))
   omega
 omega
theorem next_ok {r:Rq}{ps:List Int}{k:Nat}{b:Bs}(K:MdOk r.M)(hB:1≤r.q.B∧r.q.B≤4)(h:BsOk r k b):BsOk r (k+1) (nextB r ps b):=by
 have hg:=grow_ok (ps:=ps) K hB h
 have v0:=K.fit.v0
 obtain⟨CS,eC⟩:∃ CS,candTo b.L (openR r ps b.L b.n) r.q.L r.q.S b.n=CS:=⟨_,rfl⟩
 have eG:nextG r ps b=bestZ CS r.q.B:=by unfold nextG growL;rw[if_pos hg,eC]
 have lG:(nextG r ps b).length=min r.q.B.toNat CS.length:=by rw[eG,bestZ_length]
 have hC:=cand_some (ps:=ps) K h.n0 r.q.L r.q.S
 rw[eC] at hC
 have mem:∀ i,i<(nextG r ps b).length→(nextG r ps b).getD i c0∈CS:=fun i hi=>by
  rw[lG] at hi
  rw[eG,bestZ_at CS _ hi]
  exact getD_mem (place_lt CS (by omega))
 have fact:∀ i,i<(nextG r ps b).length→((growB b.L (nextG r ps b) i).t.length≤k+1)∧(∀ z∈(growB b.L (nextG r ps b) i).t,0≤z∧z<r.M.v)∧((growB b.L (nextG r ps b) i).f=false→(growB b.L (nextG r ps b) i).t.length=k+1∧((k+1:Nat):Int)<r.q.L):=fun i hi=>by
  have hm:=mem i hi
  rw[←eC] at hm
  obtain⟨hp,hc⟩:=candTo_mem hm
  obtain⟨c,ec⟩:∃ c,(nextG r ps b).getD i c0=c:=⟨_,rfl⟩
  rw[ec] at hp hc
  have eg:growB b.L (nextG r ps b) i=wholeZ b.L c:=by unfold growB;rw[ec]
  rw[eg]
  rcases (candOf_mem hc).2 with⟨hf,e⟩|⟨hf,j,hj,e⟩
  ·have e1:wholeZ b.L c=⟨(b.L c.p).t,(b.L c.p).s,true⟩:=by rw[e];unfold wholeZ;simp
   rw[e1]
   exact⟨Nat.le_succ_of_le (h.len _ hp),h.tok _ hp,fun hh=>by cases hh⟩
  ·have e1:wholeZ b.L c=⟨(b.L c.p).t++[(j:Int)],c.s,decide (r.q.L≤((b.L c.p).t.length:Int)+1) || decide ((j:Int)=r.q.S)⟩:=by
    have hk:c.k=(j:Int):=by rw[e]
    have hff:c.f=(decide (r.q.L≤((b.L c.p).t.length:Int)+1) || decide ((j:Int)=r.q.S)):=by rw[e]
    unfold wholeZ
    rw[hk,hff,if_neg (by omega)]
   obtain⟨o1,o2⟩:=h.opn _ hp hf
   have lr:=openR_len (ps:=ps) K (liveTo_live b.L hp hf)
   rw[e1]
   refine⟨by simp[o1],fun z hz=>?_,fun hh=>⟨by simp[o1],?_⟩⟩
   ·rcases List.mem_append.1 hz with hz|hz
    ·exact h.tok _ hp z hz
    ·obtain rfl:=List.mem_singleton.1 hz
     omega
   ·simp only[Bool.or_eq_false_iff,decide_eq_false_iff_not] at hh
    omega
 exact⟨by show 1≤(nextG r ps b).length;omega,by show (nextG r ps b).length≤4;omega,fun i hi=>(fact i hi).1,fun i hi=>(fact i hi).2.1,fun i hi=>(fact i hi).2.2⟩
theorem none_open {r:Rq}{k:Nat}{b:Bs}(h:BsOk r k b)(hk:r.q.L≤(k:Int)):anyOpen b.L b.n=false :=
 List.any_eq_false.2 fun i hi=>by
  cases hf:(b.L i).f with
  | true=>decide
  | false=>have:=(h.opn i (List.mem_range.1 hi) hf).2;omega
theorem tries_len {r:Rq}{ps:List Int}(K:MdOk r.M)(hB:1≤r.q.B∧r.q.B≤4):∀ (m k:Nat) (b:Bs),BsOk r k b→∃ j,j≤k+m∧BsOk r j (triesN r ps m b)
 | 0,k,b,h=>⟨k,by omega,h⟩
 | m+1,k,b,h=>by
  unfold triesN
  split
  ·obtain⟨j,hj,o⟩:=tries_len K hB m (k+1) _ (next_ok K hB h)
   exact⟨j,by omega,o⟩
  ·exact⟨k,by omega,h⟩
def bestOf (L:Nat→Bm)(n:Nat)(p:Int):Nat:=(maxZ (finals L n p)).toNat
theorem bestOf_lt (L:Nat→Bm){n:Nat}(p:Int)(hn:0<n):bestOf L n p<n∧maxZ (finals L n p)=(bestOf L n p:Int):=by
 have:=maxZ_range (xs:=finals L n p) (by rw[finals_len];exact hn)
 rw[finals_len] at this
 unfold bestOf
 omega
theorem pick_call (r:Rq)(a0:Option Addr)(n ca:Nat)(A:Nat→Option Addr)(C:Nat→Nat)(L:Nat→Bm)(w:World)(h0:BmAt w a0 n A C L)(hn:0<n)(hL:∀ i,i<n→(L i).t.length≤1000000) :
  Calls Tryz.prog 44 #[r.w,.slice a0 n ca] w fun e w'=>e=.returned (.slice (A (bestOf L n r.q.E)) (L (bestOf L n r.q.E)).t.length (C (bestOf L n r.q.E)))∧Below w.heap.size w w':=by
 have hb:=bNw (Below.refl w.heap.size w) (.cells r.cs 55)
 have q0:=Blk.new 55 w r.cs
 have c23:=q0.cell 23 rfl
 obtain⟨hM,eM⟩:=bestOf_lt L r.q.E hn
 have kb:=fun W (hW:Below w.heap.size w W)=>Best_call a0 n ca A C L r.q.E W (h0.below hW)
 rw[eM] at kb
 obtain⟨M,e⟩:∃ M,bestOf L n r.q.E=M:=⟨_,rfl⟩
 rw[e] at hM kb ⊢
 clear eM e
 obtain⟨x,rfl⟩:=h0.some_ (by omega)
 have lM:(M:Int)<(n:Int):=by omega
 have hn2:=h0.max
 have H0:=hdn h0
 clear h0
 go_enter Tryz.func44,Tryz.ntmps44
 go_wp2_with (go_at_call 84;refine (kb _ hb).mono ?_;rintro e W1 ⟨rfl,h⟩;clear kb;replace hb:=bTn hb h;clear h c23 q0;obtain⟨y,ey,d0,d1,d2⟩:=(H0.out.below hb).at3 hM)
 go_ret
 exact⟨rfl,hb⟩
end Go.Proofs.YtbkjhfmehemgpaaGreat

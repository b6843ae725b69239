/- Texts put together: LwRun, GxSc, DrKnSigns, GxNx, LwShpT, LwWorks. -/
import Derived.Test.YtbkjhfmehemgpaaGreatRows
import Derived.Test.YtbkjhfmehemgpaaGreatFa40
import Derived.Test.YtbkjhfmehemgpaaGreatFa41
import Derived.Test.YtbkjhfmehemgpaaGreatFa39
import Derived.Test.YtbkjhfmehemgpaaGreatFa24
namespace Go.Proofs.YtbkjhfmehemgpaaGreat
set_option maxRecDepth 20000
set_option maxHeartbeats 16000000
open Go.ChangeShapes Go.WideShapes Go.ChangeAt Go.RowKit
set_option linter.unusedVariables false
set_option linter.unusedSimpArgs false
section
theorem mrun_yes (M:Md) (E L N O:SL) (Y U D:Nat→Nat→SL) (La:SL) (Ya:Nat→Nat→SL) (hE:badE M=0) (w:World) (hM:ModAt w E L N O Y U D M.m) (hA:AdAt w La Ya M.a) (ta:Option Addr) (n tc:Nat) (ts:List Int) (ht:Reads .i64 w ta n ts) (hB:runB M ts n=true) :
  Calls Tryz.prog 41 #[.agg #[.int .i64 M.d,.int .i64 M.h,.int .i64 M.l,.int .i64 M.v,.int .i64 M.u,.int .i64 M.x,.int .i64 M.t,.int .i64 M.n,.slice E.a E.n E.c,.slice L.a L.n L.c,.slice N.a N.n N.c,.slice O.a O.n O.c],.agg #[.int .i64 M.r,.int .i64 M.s,.slice La.a La.n La.c],.slice ta n tc] w fun e w'=>(∃ u k u2 k2 A A2 C C2,e=.returned (.tuple #[.slice u n k,.slice u2 n k2,.int .i64 0])∧Grid w' u n A C (rowF M (tokF ts))∧Grid w' u2 n A2 C2 (outF M (tokF ts))∧n≤k∧n≤k2∧(∀ r,r<n→(rowF M (tokF ts) r).length≤C r)∧(u=none→k=0)∧(u2=none→k2=0))∧Below w.heap.size w w':=by
 have ok:=badE_ok hE
 refine (Run_ok M E L N O Y U D La Ya w hM hA ta n tc (fun w' a m c b j k=>m=n∧j=n∧∃ A A2 C C2,Grid w' a n A C (rowF M (tokF ts))∧Grid w' b n A2 C2 (outF M (tokF ts))∧n≤c∧n≤k∧(∀ r,r<n→(rowF M (tokF ts) r).length≤C r)∧(a=none→c=0)∧(b=none→k=0)) hE (fun W hb=>(run_yes M E L N O Y U D La Ya ok.fit ok.ok (fun h=>ok.adapter h) W (hM.below hb) (hA.below hb) ta n tc ts (ht.below hb) hB).mono fun e w' h=>?_)).mono fun e w' h=>?_
 ·obtain⟨⟨u,k,u2,k2,A,A2,C,C2,rfl,h1,h2⟩,h3⟩:=h
  obtain⟨a,c,ea,ga⟩:=h1.g1.grid
  obtain⟨b,d,eb,gb⟩:=h1.g2.grid
  simp only[Value.slice.injEq,true_and] at ea eb
  obtain⟨rfl,rfl⟩:=ea
  obtain⟨rfl,rfl⟩:=eb
  exact⟨⟨u,n,k,u2,n,k2,rfl,rfl,rfl,A,A2,C,C2,ga,gb,own_cap h1.g1.own,own_cap h1.g2.own,h2,own_nil h1.g1.own,own_nil h1.g2.own⟩,h3⟩
 ·obtain⟨⟨a,m,c,b,j,k,rfl,rfl,rfl,A,A2,C,C2,h1⟩,h2⟩:=h
  exact⟨⟨a,c,b,k,A,A2,C,C2,rfl,h1⟩,h2⟩
end
section
def Ent.slice (n:Nat) (R:Nat→List Int):Ent:=.of (fun q u=>∃ a c A C,q=.slice a n c∧Grid u a n A C R) (fun _ _ _ hb ⟨a,c,A,C,e,h⟩=>⟨a,c,A,C,e,h.below hb⟩)
def Ent.run (n:Nat) (R:Nat→List Int):Ent:=.of (fun q u=>∃ x a c A C,q=.tuple #[x,.slice a n c,.int .i64 0]∧Grid u a n A C R) (fun _ _ _ hb ⟨x,a,c,A,C,e,h⟩=>⟨x,a,c,A,C,e,h.below hb⟩)
def Ent.nums (n:Nat) (zs:List Int):Ent:=.of (fun q u=>∃ a c,q=.slice a n c∧Reads .i64 u a n zs) (fun _ _ _ hb ⟨a,c,e,h⟩=>⟨a,c,e,h.below hb⟩)
def Ent.row (n:Nat) (zs:List Int):Ent:=.of (fun q u=>∃ a c,q=.tuple #[.slice a n c,.int .i64 0]∧Reads .i64 u a n zs) (fun _ _ _ hb ⟨a,c,e,h⟩=>⟨a,c,e,h.below hb⟩)
def Ent.two (x y:Value):Ent:=.of (fun q u=>∃ g,q=.slice (some ⟨g,0,none⟩) 2 2∧u.cell? ⟨g,0,none⟩=some x∧u.cell? ⟨g,1,none⟩=some y) (fun _ _ _ hb ⟨g,e,h1,h2⟩=>⟨g,e,(hb.cell (World.block_lt_of_cell? _ _ h1)).trans h1,(hb.cell (World.block_lt_of_cell? _ _ h2)).trans h2⟩)
theorem score_at (M:Md) (E L N O:SL) (Y U D:Nat→Nat→SL) (K:MdOk M) (w:World) (hM:ModAt w E L N O Y U D M.m) (a:Option Addr) (c:Nat) (xs:List Int) (hr:Reads .i64 w a M.D xs) :
  Calls Tryz.prog 121 #[.agg #[.int .i64 M.d,.int .i64 M.h,.int .i64 M.l,.int .i64 M.v,.int .i64 M.u,.int .i64 M.x,.int .i64 M.t,.int .i64 M.n,.slice E.a E.n E.c,.slice L.a L.n L.c,.slice N.a N.n N.c,.slice O.a O.n O.c],.slice a M.D c] w fun e w'=>(∃ a c,e=.returned (.tuple #[.slice a M.v.toNat c,.int .i64 0])∧Reads .i64 w' a M.v.toNat (matL M.m.o xs))∧Below w.heap.size w w':=by
 have F:=K.fit
 have hv:=F.v0
 have d0:=F.d0
 have eO:(O.n:Int)=M.v*M.D:=by rw[←hM.o.reads.len];exact F.o
 have hd:O.n / M.D=M.v.toNat:=by
  have e:O.n=M.v.toNat*M.D:=by
   have:((M.v.toNat:Nat):Int)=M.v:=by omega
   rw[←this,←Int.natCast_mul] at eO
   exact Int.ofNat.inj eO
  rw[e]
  exact Nat.mul_div_cancel _ (by omega)
 have:=Scores_yes M E L N O Y U D K.ck F w hM a M.D c xs hr (fitB_of (by omega) eO (by omega))
 rw[hd] at this
 exact this
theorem askScores_call (r:Rq) (Y U D Ya:Nat→Nat→SL) (ps:List Int) (K:MdOk r.M) (w:World) (h:RqAt w r Y U D Ya ps) (ta:Option Addr) (tn tc:Nat) (ts:List Int) (ht:Reads .i64 w ta tn ts) (te:ta=none→tc=0) (hp:0<r.q.n) (hB:runB r.M (ps++ts) (r.q.n+tn)=true) :
  Calls Tryz.prog 85 #[r.w,.slice ta tn tc] w fun e w'=>(∃ a c,e=.returned (.tuple #[.slice a r.M.v.toNat c,.int .i64 0])∧Reads .i64 w' a r.M.v.toNat (scoreL r.M (ps++ts)))∧Below w.heap.size w w':=by
 have hb:=below_new (Below.refl w.heap.size w) (.cells r.cs 55)
 have q0:=Blk.new 55 w r.cs
 have n24:=(runB_yes hB).1
 have hE:=K.none_bad
 obtain⟨T,hT⟩:∃ T,r.q.n+tn=T:=⟨_,rfl⟩
 have kc:=fun (W:World) (hb:Below w.heap.size w W) g (k1:W.cell? ⟨g,0,none⟩=some (.slice r.q.a r.q.n r.q.c)) (k2:W.cell? ⟨g,1,none⟩=some (.slice ta tn tc))=>concat_call g 2 r.q.a r.q.n r.q.c ps ta tn tc ts W (h.q.t.below hb) (ht.below hb) h.q.te te k1 k2 hp (by omega)
 have kr:=fun (W:World) (hb:Below w.heap.size w W) a c (hr:Reads .i64 W a T (ps++ts))=>mrun_yes r.M r.E r.L r.N r.O Y U D r.La Ya hE W (h.m.below hb) (h.a.below hb) a T c (ps++ts) hr (by rw[←hT];exact hB)
 have ks:=fun (W:World) (hb:Below w.heap.size w W) a c (hr:Reads .i64 W a r.M.D (lastL r.M (ps++ts)))=>score_at r.M r.E r.L r.N r.O Y U D K W (h.m.below hb) a c _ hr
 simp only[hT] at kc
 obtain⟨W0,eW⟩:∃ W0,w.alloc (.cells r.cs 55)=W0:=⟨_,rfl⟩
 rw[eW] at hb q0
 have EW:=hidden_ eW
 clear eW
 go_enter Tryz.func85,Tryz.ntmps85
 go_wp2
 rw[EW.out]
 clear EW
 refine wp_region_tab (by kernel_rfl) (by kernel_rfl) rfl (fun W=>Below w.heap.size w W∧Blk 55 W w.heap.size r.cs) [.eq (.pointer (some ⟨w.heap.size,0,none⟩)),.eq r.mw,.eq (.pointer (some ⟨w.heap.size,12,none⟩)),.eq r.aw,.eq (.pointer (some ⟨w.heap.size,15,none⟩)),.eq (.pointer (some ⟨w.heap.size,16,none⟩)),.eq (.slice r.q.a r.q.n r.q.c),.eq (.slice ta tn tc),.two (.slice r.q.a r.q.n r.q.c) (.slice ta tn tc),.nums T (ps++ts),.run T (outF r.M (tokF (ps++ts))),.run T (outF r.M (tokF (ps++ts))),.any,.slice T (outF r.M (tokF (ps++ts))),.eq (.int .i64 0),.any,.slice T (outF r.M (tokF (ps++ts))),.eq (.int .i64 0)] ⟨below_drew hb ⟨1,rfl⟩,q0⟩ ⟨?_,?_,?_,?_,?_,?_,?_,?_,?b8,?c9,?c10,?p11,?x12,?x13,?x14,?p15,?p16,?_,trivial⟩ ?fin
 case b8 =>
  rintro b u - ⟨hb,qb⟩ ⟨h1,h2,-⟩ K hK
  replace h1:=show b.tmps.getD 16 undef=.slice r.q.a r.q.n r.q.c from h1
  replace h2:=show b.tmps.getD 17 undef=.slice ta tn tc from h2
  rw[Array.getD_eq_getD_getElem?] at h1 h2
  dsimp only
  go_simp
  exact hK _ _ (below_new (Below.refl _ _) _) ⟨below_new hb _,qb.kept (below_new (Below.refl _ _) _)⟩ ⟨_,rfl,(Blk.new 25 u #[.slice r.q.a r.q.n r.q.c,.slice ta tn tc]).cell 0 rfl,(Blk.new 25 u #[.slice r.q.a r.q.n r.q.c,.slice ta tn tc]).cell 1 rfl⟩
 case c9 =>
  rintro b u - ⟨hb,qb⟩ ⟨h1,-⟩ K hK
  obtain⟨g,h1,k1,k2⟩:=h1
  dsimp only
  go_wp2_with (go_at_call 120;refine (kc _ hb _ k1 k2).mono ?_;rintro e W1 ⟨⟨p',m',rfl,h'⟩,h⟩;exact hK _ _ h ⟨below_then hb h,qb.kept h⟩ ⟨_,_,rfl,h'⟩)
 case c10 =>
  rintro b u - ⟨hb,qb⟩ ⟨h1,h2,h3,-⟩ K hK
  replace h1:=show b.tmps.getD 11 undef=r.mw from h1
  replace h2:=show b.tmps.getD 13 undef=r.aw from h2
  obtain⟨a9,c9,h3,r9⟩:=h3
  dsimp only
  go_wp2_with (go_at_call 41;refine (kr _ hb _ _ r9).mono ?_;rintro e W1 ⟨⟨u1,k1,u2,k2,A1,A2,C1,C2,rfl,g1,g2,-⟩,h⟩;exact hK _ _ h ⟨below_then hb h,qb.kept h⟩ ⟨_,_,_,_,_,rfl,g2⟩)
 case p11 =>
  rintro b u - hS ⟨h1,-⟩ K hK
  exact hK _ _ (Below.refl _ _) hS h1
 case p15 =>
  rintro b u - hS ⟨h1,-⟩ K hK
  exact hK _ _ (Below.refl _ _) hS trivial
 case p16 =>
  rintro b u - hS ⟨h1,-⟩ K hK
  exact hK _ _ (Below.refl _ _) hS h1
 case x12 =>
  rintro b u - hS ⟨h1,-⟩ K hK
  obtain⟨x,a,c,A,C,h1,g1⟩:=h1
  dsimp only
  go_simp
  exact hK _ _ (Below.refl _ _) hS trivial
 case x13 =>
  rintro b u - hS ⟨h1,-⟩ K hK
  obtain⟨x,a,c,A,C,h1,g1⟩:=h1
  dsimp only
  go_simp
  exact hK _ _ (Below.refl _ _) hS ⟨_,_,_,_,rfl,g1⟩
 case x14 =>
  rintro b u - hS ⟨h1,-⟩ K hK
  obtain⟨x,a,c,A,C,h1,g1⟩:=h1
  dsimp only
  go_simp
  exact hK _ _ (Below.refl _ _) hS rfl
 case fin =>
  rintro g u ⟨hb,qb⟩ ⟨-,-,-,-,-,-,-,-,-,-,-,-,-,-,-,-,f7,f8,-⟩
  replace f8:=show g 8=.int .i64 0 from f8
  obtain⟨oa,oc,oA,oC,f7,hg⟩:=f7
  replace f7:=show g 7=.slice oa T oc from f7
  simp only[List.filterMap,List.foldl,f7,f8,Act.put,List.setIfInBounds_toArray,List.set_cons_succ,List.set_cons_zero]
  clear f7 f8 kc kr
  have eT:∃ T1:Nat,T=T1+1:=⟨T - 1,by omega⟩
  obtain⟨T1,eT⟩:=eT
  obtain⟨x,rfl⟩:=hg.some_ (by omega)
  have hlt:T1<T:=by omega
  have z1:(T:Int) - 1=(T1:Int):=by omega
  have z2:IntKind.i64.wrap (T1:Int)=(T1:Int):=by rw[IntKind.wrap_i64];omega
  have z3:(0:Int)≤(T1:Int):=by omega
  have z4:(T1:Int)<(T:Int):=by omega
  have hl:outF r.M (tokF (ps++ts)) T1=lastL r.M (ps++ts):=by
   unfold lastL
   rw[List.length_append,h.q.t.len,ht.len,hT,eT]
   rfl
  have ZZ:=hidden_ (And.intro eT hl)
  clear eT hl h ht te hp hB hT hE n24
  go_wp2
  refine wp_region_tab (by kernel_rfl) (by kernel_rfl) rfl (fun W=>Below w.heap.size w W∧Blk 55 W w.heap.size r.cs∧Grid W (some x) T oA oC (outF r.M (tokF (ps++ts)))) [.eq (.pointer (some ⟨w.heap.size,0,none⟩)),.eq r.mw,.eq (.slice (some x) T oc),.eq (.slice (some x) T oc),.eq (.int .i64 T),.eq (.int .i64 T1),.eq (.pointer (some (x.add T1))),.eq (.slice (oA T1) r.M.D (oC T1)),.row r.M.v.toNat (scoreL r.M (ps++ts)),.nums r.M.v.toNat (scoreL r.M (ps++ts)),.eq (.int .i64 0),.nums r.M.v.toNat (scoreL r.M (ps++ts)),.eq (.int .i64 0)] ⟨below_drew hb ⟨1,rfl⟩,qb,hg.below (below_drew (Below.refl _ _) ⟨1,rfl⟩)⟩ ⟨?_,?_,?_,?_,?_,?_,?_,?_,?c8,?x9,?x10,?p11,?_,trivial⟩ ?fin
  case c8 =>
   rintro b u - ⟨hb,qb,hg⟩ ⟨h1,h2,-⟩ K hK
   replace h1:=show b.tmps.getD 28 undef=r.mw from h1
   replace h2:=show b.tmps.getD 34 undef=.slice (oA T1) r.M.D (oC T1) from h2
   have rr:=hg.row T1 hlt
   rw[outF_length,ZZ.out.2] at rr
   dsimp only
   go_wp2_with (go_at_call 121;refine (ks _ hb _ _ rr).mono ?_;rintro e W1 ⟨⟨a',c',rfl,r'⟩,h⟩;exact hK _ _ h ⟨below_then hb h,qb.kept h,hg.below h⟩ ⟨_,_,rfl,r'⟩)
  case x9 =>
   rintro b u - hS ⟨h1,-⟩ K hK
   obtain⟨a,c,h1,g1⟩:=h1
   dsimp only
   go_simp
   exact hK _ _ (Below.refl _ _) hS ⟨_,_,rfl,g1⟩
  case x10 =>
   rintro b u - hS ⟨h1,-⟩ K hK
   obtain⟨a,c,h1,g1⟩:=h1
   dsimp only
   go_simp
   exact hK _ _ (Below.refl _ _) hS rfl
  case p11 =>
   rintro b u - hS ⟨h1,-⟩ K hK
   exact hK _ _ (Below.refl _ _) hS h1
  case fin =>
   rintro g u ⟨hb,qb,-⟩ ⟨-,-,-,-,-,-,-,-,-,-,-,f4,f5,-⟩
   replace f5:=show g 5=.int .i64 0 from f5
   obtain⟨sa,sc,f4,rs⟩:=f4
   replace f4:=show g 4=.slice sa r.M.v.toNat sc from f4
   simp only[List.filterMap,List.foldl,f4,f5,Act.put,List.setIfInBounds_toArray,List.set_cons_succ,List.set_cons_zero]
   go_wp2
   go_ret2
   exact⟨⟨_,_,rfl,rs⟩,hb⟩
  all_goals
   rintro b u - ⟨hb,qb,hg⟩ hv K hK
   obtain⟨c0,c1,c2,c3,c4,c5,c6,c7,c8,c9,c10,c11,c12,c13,c14,c15,c16,c17,c18,c19,c20,c21,c22,c23⟩:=qb.rq
   have cx:=hg.cell x rfl T1 hlt
   rw[outF_length] at cx
   first
    | (obtain⟨h1,h2,-⟩:=hv;replace h1:=show b.tmps.getD _ undef=_ from h1;replace h2:=show b.tmps.getD _ undef=_ from h2)
    | (obtain⟨h1,-⟩:=hv;replace h1:=show b.tmps.getD _ undef=_ from h1)
    | skip
   dsimp only
   go_simp
   exact hK _ _ (Below.refl _ _) ⟨hb,qb,hg⟩ rfl
 all_goals
  rintro b u - ⟨hb,qb⟩ hv K hK
  obtain⟨c0,c1,c2,c3,c4,c5,c6,c7,c8,c9,c10,c11,c12,c13,c14,c15,c16,c17,c18,c19,c20,c21,c22,c23⟩:=qb.rq
  first
   | (obtain⟨h1,h2,h3,-⟩:=hv;replace h1:=show b.tmps.getD _ undef=_ from h1;replace h2:=show b.tmps.getD _ undef=_ from h2;replace h3:=show b.tmps.getD _ undef=_ from h3)
   | (obtain⟨h1,h2,-⟩:=hv;replace h1:=show b.tmps.getD _ undef=_ from h1;replace h2:=show b.tmps.getD _ undef=_ from h2)
   | (obtain⟨h1,-⟩:=hv;replace h1:=show b.tmps.getD _ undef=_ from h1)
   | skip
  dsimp only
  go_simp
  exact hK _ _ (Below.refl _ _) ⟨hb,qb⟩ rfl
end
section
theorem knobSigns.fixN_of {x:Nat} (h:isN x=false):fixN x=if 32768*(UN:Int)≤K x then 2147483647 else if K x≤-(32768*(UN:Int)) then -2147483648 else min (drrnd (65536*K x)) 2147483647:=by
 unfold fixN
 rw[h]
 rfl
theorem knobSigns.fixN_bounds (x:Nat):-2147483648≤fixN x∧fixN x≤2147483647:=by
 cases h:isN x
 ·rw[knobSigns.fixN_of h]
  by_cases c1:32768*(UN:Int)≤K x
  ·rw[if_pos c1];omega
  ·rw[if_neg c1]
   by_cases c2:K x≤-(32768*(UN:Int))
   ·rw[if_pos c2];omega
   ·rw[if_neg c2]
    have:=rnd_bound (Y:=65536*K x) (by omega)
    omega
 ·have:fixN x=0:=by unfold fixN;rw[h];rfl
  omega
end
section
def nextZ (r:Rq) (l:List Int) (n:Nat):Int:=if r.q.k=1 then maxZ (scoreL r.M l) else chooseZ (scoreL r.M l) r.q.T (heatZ r.q.H) (bitsZ r.q.sd n)
theorem wf64_of {z:Int} (h0:-9223372036854775808≤z) (h1:z≤9223372036854775807):(Lit.int .i64 z).wf=true:=by
 have e:IntKind.i64.wrap z=z:=by rw[IntKind.wrap_i64];omega
 rw[←e]
 exact wf_wrap _ _
theorem heatZ_wf (x:Nat):(Lit.int .i64 (heatZ x)).wf=true:=by
 have h:=knobSigns.fixN_bounds x
 have h2:-2147483648≤heatZ x∧heatZ x≤2147483647:=by unfold heatZ;omega
 exact wf64_of (by omega) (by omega)
theorem bitsZ_wf (s n:Int):(Lit.int .u64 (bitsZ s n)).wf=true:=by unfold bitsZ bz3;exact wf_bits _ _ _ _
theorem next_greedy (r:Rq) (Y U D Ya:Nat→Nat→SL) (ps:List Int) (K:MdOk r.M) (w:World) (h:RqAt w r Y U D Ya ps) (ta:Option Addr) (tn tc:Nat) (ts:List Int) (ht:Reads .i64 w ta tn ts) (te:ta=none→tc=0) (hp:0<r.q.n) (hB:runB r.M (ps++ts) (r.q.n+tn)=true) (hk:(r.q.k == 1)=true) :
  Calls Tryz.prog 45 #[r.w,.slice ta tn tc] w fun e w'=>e=.returned (.tuple #[.int .i64 (maxZ (scoreL r.M (ps++ts))),.int .i64 0])∧Below w.heap.size w w':=by
 have hb:=below_new (Below.refl w.heap.size w) (.cells r.cs 55)
 have q0:=Blk.new 55 w r.cs
 have ks:=fun W (hb:Below w.heap.size w W)=>askScores_call r Y U D Ya ps K W (h.below hb) ta tn tc ts (ht.below hb) te hp hB
 have hv:=K.fit.v1
 obtain⟨W0,eW⟩:∃ W0,w.alloc (.cells r.cs 55)=W0:=⟨_,rfl⟩
 rw[eW] at hb q0
 have EW:=hidden_ eW
 clear eW h ht hB te
 go_enter Tryz.func45,Tryz.ntmps45
 go_upto_region 1 with fail
 rw[EW.out]
 clear EW
 refine wp_region_tab0 (by kernel_rfl) rfl (fun W=>Below w.heap.size w W∧Blk 55 W w.heap.size r.cs) [.eq r.w,.eq (.slice ta tn tc),.row r.M.v.toNat (scoreL r.M (ps++ts)),.row r.M.v.toNat (scoreL r.M (ps++ts)),.nums r.M.v.toNat (scoreL r.M (ps++ts)),.eq (.int .i64 0),.nums r.M.v.toNat (scoreL r.M (ps++ts)),.eq (.int .i64 0)] ⟨hb,q0⟩ ⟨?l0,?m1,?c2,?p3,?x4,?x5,?p6,?m7,trivial⟩ ?fin
 case l0 =>
  rintro b u - ⟨hb,qb⟩ ⟨h1,-⟩ K hK
  exact ask_load rfl h1 qb Tryz.underlying55 rfl rfl (hK _ _ (Below.refl _ _) ⟨hb,qb⟩ rfl)
 case m1 =>
  rintro b u - hS ⟨h1,-⟩ K hK
  exact hK _ _ (Below.refl _ _) hS h1
 case c2 =>
  rintro b u - ⟨hb,qb⟩ ⟨h1,h2,-⟩ K hK
  replace h1:=show b.tmps.getD 10 undef=r.w from h1
  replace h2:=show b.tmps.getD 11 undef=.slice ta tn tc from h2
  dsimp only
  go_wp2_with (go_at_call 85;refine (ks _ hb).mono ?_;rintro e W1 ⟨⟨a',c',rfl,r'⟩,h⟩;exact hK _ _ h ⟨below_then hb h,qb.kept h⟩ ⟨_,_,rfl,r'⟩)
 case p3 =>
  rintro b u - hS ⟨h1,-⟩ K hK
  exact hK _ _ (Below.refl _ _) hS h1
 case x4 =>
  rintro b u - hS ⟨h1,-⟩ K hK
  obtain⟨a,c,h1,g1⟩:=h1
  dsimp only
  go_simp
  exact hK _ _ (Below.refl _ _) hS ⟨_,_,rfl,g1⟩
 case x5 =>
  rintro b u - hS ⟨h1,-⟩ K hK
  obtain⟨a,c,h1,g1⟩:=h1
  dsimp only
  go_simp
  exact hK _ _ (Below.refl _ _) hS rfl
 case p6 =>
  rintro b u - hS ⟨h1,-⟩ K hK
  exact hK _ _ (Below.refl _ _) hS h1
 case m7 =>
  rintro b u - hS ⟨h1,-⟩ K hK
  exact hK _ _ (Below.refl _ _) hS h1
 rintro g u ⟨hb,qb⟩ ⟨-,-,-,-,-,-,f6,f7,-⟩
 replace f7:=show g 7=.int .i64 0 from f7
 obtain⟨sa,sc,f6,rs⟩:=f6
 replace f6:=show g 6=.slice sa r.M.v.toNat sc from f6
 simp only[List.filterMap,List.foldl,f6,f7,Act.put,List.setIfInBounds_toArray,List.set_cons_succ,List.set_cons_zero]
 have c15:=qb.cell 15 rfl
 clear f6 f7 ks
 go_wp2_with (go_at_call 86;refine (max_call _ _ _ _ _ rs).mono ?_;rintro e W2 ⟨rfl,h2⟩;replace hb:=below_then hb h2;clear h2)
 go_ret2
 exact⟨rfl,hb⟩
theorem next_sample (r:Rq) (Y U D Ya:Nat→Nat→SL) (ps:List Int) (K:MdOk r.M) (w:World) (h:RqAt w r Y U D Ya ps) (ta:Option Addr) (tn tc:Nat) (ts:List Int) (ht:Reads .i64 w ta tn ts) (te:ta=none→tc=0) (hp:0<r.q.n) (hB:runB r.M (ps++ts) (r.q.n+tn)=true) (hk:(r.q.k == 1)=false) (hH:isN r.q.H=false) (hs:(Lit.int .u64 r.q.sd).wf=true) :
  Calls Tryz.prog 45 #[r.w,.slice ta tn tc] w fun e w'=>e=.returned (.tuple #[.int .i64 (chooseZ (scoreL r.M (ps++ts)) r.q.T (heatZ r.q.H) (bitsZ r.q.sd tn)),.int .i64 0])∧Below w.heap.size w w':=by
 have kh:=heat_call r.q.H
 rw[show fixE r.q.H=0 by simp[fixE,hH]] at kh
 have kch:=fun W a c (hr:Reads .i64 W a r.M.v.toNat (scoreL r.M (ps++ts)))=>choose_call a r.M.v.toNat c _ r.q.T (heatZ r.q.H) (bitsZ r.q.sd tn) W hr (by have:=K.fit.v1;omega) (heatZ_wf _) (bitsZ_wf _ _)
 have kb:=bits_call r.q.sd tn
 obtain⟨HZ,eH⟩:∃ z,heatZ r.q.H=z:=⟨_,rfl⟩
 obtain⟨BZ,eB⟩:∃ z,bitsZ r.q.sd tn=z:=⟨_,rfl⟩
 obtain⟨CZ,eC⟩:∃ z,chooseZ (scoreL r.M (ps++ts)) r.q.T HZ BZ=z:=⟨_,rfl⟩
 simp only[eH,eB,eC] at kh kch kb ⊢
 clear eH eB eC
 have hb:=below_new (Below.refl w.heap.size w) (.cells r.cs 55)
 have q0:=Blk.new 55 w r.cs
 have ks:=fun W (hb:Below w.heap.size w W)=>askScores_call r Y U D Ya ps K W (h.below hb) ta tn tc ts (ht.below hb) te hp hB
 have hv:=K.fit.v1
 obtain⟨W0,eW⟩:∃ W0,w.alloc (.cells r.cs 55)=W0:=⟨_,rfl⟩
 rw[eW] at hb q0
 have EW:=hidden_ eW
 clear eW h ht hB te
 go_enter Tryz.func45,Tryz.ntmps45
 go_upto_region 1 with fail
 rw[EW.out]
 clear EW
 refine wp_region_tab0 (by kernel_rfl) rfl (fun W=>Below w.heap.size w W∧Blk 55 W w.heap.size r.cs) [.eq r.w,.eq (.slice ta tn tc),.row r.M.v.toNat (scoreL r.M (ps++ts)),.row r.M.v.toNat (scoreL r.M (ps++ts)),.nums r.M.v.toNat (scoreL r.M (ps++ts)),.eq (.int .i64 0),.nums r.M.v.toNat (scoreL r.M (ps++ts)),.eq (.int .i64 0)] ⟨hb,q0⟩ ⟨?l0,?m1,?c2,?p3,?x4,?x5,?p6,?m7,trivial⟩ ?fin
 case l0 =>
  rintro b u - ⟨hb,qb⟩ ⟨h1,-⟩ K hK
  exact ask_load rfl h1 qb Tryz.underlying55 rfl rfl (hK _ _ (Below.refl _ _) ⟨hb,qb⟩ rfl)
 case m1 =>
  rintro b u - hS ⟨h1,-⟩ K hK
  exact hK _ _ (Below.refl _ _) hS h1
 case c2 =>
  rintro b u - ⟨hb,qb⟩ ⟨h1,h2,-⟩ K hK
  replace h1:=show b.tmps.getD 10 undef=r.w from h1
  replace h2:=show b.tmps.getD 11 undef=.slice ta tn tc from h2
  dsimp only
  go_wp2_with (go_at_call 85;refine (ks _ hb).mono ?_;rintro e W1 ⟨⟨a',c',rfl,r'⟩,h⟩;exact hK _ _ h ⟨below_then hb h,qb.kept h⟩ ⟨_,_,rfl,r'⟩)
 case p3 =>
  rintro b u - hS ⟨h1,-⟩ K hK
  exact hK _ _ (Below.refl _ _) hS h1
 case x4 =>
  rintro b u - hS ⟨h1,-⟩ K hK
  obtain⟨a,c,h1,g1⟩:=h1
  dsimp only
  go_simp
  exact hK _ _ (Below.refl _ _) hS ⟨_,_,rfl,g1⟩
 case x5 =>
  rintro b u - hS ⟨h1,-⟩ K hK
  obtain⟨a,c,h1,g1⟩:=h1
  dsimp only
  go_simp
  exact hK _ _ (Below.refl _ _) hS rfl
 case p6 =>
  rintro b u - hS ⟨h1,-⟩ K hK
  exact hK _ _ (Below.refl _ _) hS h1
 case m7 =>
  rintro b u - hS ⟨h1,-⟩ K hK
  exact hK _ _ (Below.refl _ _) hS h1
 rintro g u ⟨hb,qb⟩ ⟨-,-,-,-,-,-,f6,f7,-⟩
 replace f7:=show g 7=.int .i64 0 from f7
 obtain⟨sa,sc,f6,rs⟩:=f6
 replace f6:=show g 6=.slice sa r.M.v.toNat sc from f6
 simp only[List.filterMap,List.foldl,f6,f7,Act.put,List.setIfInBounds_toArray,List.set_cons_succ,List.set_cons_zero]
 have c15:=qb.cell 15 rfl
 have c21:=qb.cell 21 rfl
 clear f6 f7 ks
 go_wp2_with (go_at_call 87;refine (kh _).mono ?_;rintro e W2 ⟨rfl,h2⟩;obtain rfl:=h2.symm;clear h2 kh)
 refine wp_region_tab (by kernel_rfl) (by kernel_rfl) rfl (fun W=>Below w.heap.size w W∧Blk 55 W w.heap.size r.cs∧Reads .i64 W sa r.M.v.toNat (scoreL r.M (ps++ts))) [.eq (.slice sa r.M.v.toNat sc),.eq (.pointer (some ⟨w.heap.size,15,none⟩)),.eq (.pointer (some ⟨w.heap.size,20,none⟩)),.eq (.int .i64 r.q.T),.eq (.int .i64 HZ),.eq (.pointer (some ⟨w.heap.size,15,none⟩)),.eq (.pointer (some ⟨w.heap.size,19,none⟩)),.eq (.int .u64 r.q.sd),.eq (.slice ta tn tc),.eq (.int .i64 tn),.eq (.int .u64 BZ),.eq (.int .i64 CZ),.eq (.int .i64 CZ),.eq (.int .i64 0)] ⟨below_drew hb ⟨1,rfl⟩,qb,rs.below (below_drew (Below.refl _ _) ⟨1,rfl⟩)⟩ ⟨?_,?_,?_,?_,?_,?_,?_,?_,?_,?_,?b10,?c11,?_,?_,trivial⟩ ?fin2
 case b10 =>
  rintro b u - ⟨hb,qb,hr⟩ ⟨h1,h2,-⟩ K hK
  replace h1:=show b.tmps.getD 41 undef=.int .u64 r.q.sd from h1
  replace h2:=show b.tmps.getD 43 undef=.int .i64 tn from h2
  dsimp only
  go_wp2_with (go_at_call 89;refine (kb _).mono ?_;rintro e W1 ⟨rfl,h⟩;obtain rfl:=h.symm;exact hK _ _ (Below.refl _ _) ⟨hb,qb,hr⟩ rfl)
 case c11 =>
  rintro b u - ⟨hb,qb,hr⟩ ⟨h1,h2,h3,h4,-⟩ K hK
  replace h1:=show b.tmps.getD 34 undef=.slice sa r.M.v.toNat sc from h1
  replace h2:=show b.tmps.getD 37 undef=.int .i64 r.q.T from h2
  replace h3:=show b.tmps.getD 38 undef=.int .i64 HZ from h3
  replace h4:=show b.tmps.getD 44 undef=.int .u64 BZ from h4
  dsimp only
  go_wp2_with (go_at_call 88;refine (kch _ _ _ hr).mono ?_;rintro e W1 ⟨rfl,h⟩;exact hK _ _ h ⟨below_then hb h,qb.kept h,hr.below h⟩ rfl)
 case fin2 =>
  rintro g u ⟨hb,qb,-⟩ ⟨-,-,-,-,-,-,-,-,-,-,-,-,f4,f5,-⟩
  replace f4:=show g 4=.int .i64 CZ from f4
  replace f5:=show g 5=.int .i64 0 from f5
  simp only[List.filterMap,List.foldl,f4,f5,Act.put,List.setIfInBounds_toArray,List.set_cons_succ,List.set_cons_zero]
  go_wp2
  go_ret2
  exact⟨rfl,hb⟩
 all_goals
  rintro b u - ⟨hb,qb,hr⟩ hv K hK
  have c19:=qb.cell 19 rfl
  have c20:=qb.cell 20 rfl
  first
   | (obtain⟨h1,h2,-⟩:=hv;replace h1:=show b.tmps.getD _ undef=_ from h1;replace h2:=show b.tmps.getD _ undef=_ from h2)
   | (obtain⟨h1,-⟩:=hv;replace h1:=show b.tmps.getD _ undef=_ from h1)
   | skip
  dsimp only
  go_simp
  exact hK _ _ (Below.refl _ _) ⟨hb,qb,hr⟩ rfl
end
section
theorem refShape_typed (h v u x t n:Int) (D DD XD UD VD ln nW cW:Nat) (xa:Addr) (ws:List Int) (e1:v*(D:Int)=(VD:Int)) (e2:(D:Int)*(D:Int)=(DD:Int)) (e3:x*(D:Int)=(XD:Int)) (e4:u*(D:Int)=(UD:Int)) (e5:(D:Int)*u=(UD:Int)) (xlt:x<1)
  (b0:D≤8) (b1:VD≤1000) (b2:DD≤1000) (b3:XD≤1000) (b4:UD≤1000) (l1:ln≤2) (w:World)
  (k10:∀ w,Calls Tryz.prog 46 #[.agg #[.int .i64 (D:Int),.int .i64 h,.int .i64 (ln:Int),.int .i64 v,.int .i64 u,.int .i64 x,.int .i64 t,.int .i64 n]] w fun e w'=>e=.returned (.bool true)∧Below w.heap.size w w')
  (k12:∀ w,Calls Tryz.prog 37 #[.agg #[.int .i64 (D:Int),.int .i64 h,.int .i64 (ln:Int),.int .i64 v,.int .i64 u,.int .i64 x,.int .i64 t,.int .i64 n]] w fun e w'=>e=.returned (.int .i64 (nW:Int))∧Below w.heap.size w w')
  (rd:Reads .i8 w (some xa) nW ws) (hc:nW≤cW) (hn:nW≤100000) (hfit:offs (planC ln 1 D DD XD UD VD) (1+ln*pl 1+2)=nW) (hxa:xa.block<w.heap.size) :
  Calls Tryz.prog 33 #[.agg #[.int .i64 (D:Int),.int .i64 h,.int .i64 (ln:Int),.int .i64 v,.int .i64 u,.int .i64 x,.int .i64 t,.int .i64 n],.slice (some xa) nW cW] w fun e w'=>∃ E L N O:SL,∃ Y U D',e=.returned (.tuple #[.agg #[.int .i64 (D:Int),.int .i64 h,.int .i64 (ln:Int),.int .i64 v,.int .i64 u,.int .i64 x,.int .i64 t,.int .i64 n,.slice E.a E.n E.c,.slice L.a L.n L.c,.slice N.a N.n N.c,.slice O.a O.n O.c],.int .i64 0]) ∧
   TM w.heap.size w' E L N O Y U D' (ofSeq ln 1 (seg (planC ln 1 D DD XD UD VD) ws))∧Below w.heap.size w w':=by
 have cl:=fun i r hi hr=>planC_list (ln:=ln) (ne:=1) (D:=D) (DD:=DD) (XD:=XD) (UD:=UD) (VD:=VD) i r hi hr
 have cu:=fun i j hi hj=>planC_up (ln:=ln) (ne:=1) (D:=D) (DD:=DD) (XD:=XD) (UD:=UD) (VD:=VD) i j hi hj
 have cd:=fun i j hi hj=>planC_down (ln:=ln) (ne:=1) (D:=D) (DD:=DD) (XD:=XD) (UD:=UD) (VD:=VD) i j hi hj
 have cn:=planC_norm (ln:=ln) (ne:=1) (D:=D) (DD:=DD) (XD:=XD) (UD:=UD) (VD:=VD)
 have co:=planC_out (ln:=ln) (ne:=1) (D:=D) (DD:=DD) (XD:=XD) (UD:=UD) (VD:=VD)
 have c0:planC ln 1 D DD XD UD VD 0=VD:=rfl
 obtain⟨cnt,ecnt⟩:∃ c,planC ln 1 D DD XD UD VD=c:=⟨_,rfl⟩
 rw[ecnt] at hfit cn co c0 ⊢
 simp only[ecnt] at cl cu cd
 clear ecnt
 have FIT:∀ k,k<1+ln*pl 1+2→offs cnt (k+1)≤nW:=fun k hk=>by rw[←hfit];exact offs_mono cnt hk
 have hb:=below_new (below_new (Below.refl w.heap.size w) (.cells #[.int .i64 (D:Int),.int .i64 h,.int .i64 (ln:Int),.int .i64 v,.int .i64 u,.int .i64 x,.int .i64 t,.int .i64 n] 23)) (.cells #[.int .i64 0,.int .i64 0,.int .i64 0,.int .i64 0,.int .i64 0,.int .i64 0,.int .i64 0,.int .i64 0,.slice none 0 0,.slice none 0 0,.slice none 0 0,.slice none 0 0] 34)
 have q0:Blk 23 ((w.alloc (.cells #[.int .i64 (D:Int),.int .i64 h,.int .i64 (ln:Int),.int .i64 v,.int .i64 u,.int .i64 x,.int .i64 t,.int .i64 n] 23)).alloc (.cells #[.int .i64 0,.int .i64 0,.int .i64 0,.int .i64 0,.int .i64 0,.int .i64 0,.int .i64 0,.int .i64 0,.slice none 0 0,.slice none 0 0,.slice none 0 0,.slice none 0 0] 34)) w.heap.size #[.int .i64 (D:Int),.int .i64 h,.int .i64 (ln:Int),.int .i64 v,.int .i64 u,.int .i64 x,.int .i64 t,.int .i64 n]:=(Blk.new 23 w _).kept (below_new (Below.refl _ _) _)
 have qr:Blk 34 ((w.alloc (.cells #[.int .i64 (D:Int),.int .i64 h,.int .i64 (ln:Int),.int .i64 v,.int .i64 u,.int .i64 x,.int .i64 t,.int .i64 n] 23)).alloc (.cells #[.int .i64 0,.int .i64 0,.int .i64 0,.int .i64 0,.int .i64 0,.int .i64 0,.int .i64 0,.int .i64 0,.slice none 0 0,.slice none 0 0,.slice none 0 0,.slice none 0 0] 34)) (w.heap.size+1) #[.int .i64 0,.int .i64 0,.int .i64 0,.int .i64 0,.int .i64 0,.int .i64 0,.int .i64 0,.int .i64 0,.slice none 0 0,.slice none 0 0,.slice none 0 0,.slice none 0 0]:=Blk.new_at 34 (w.alloc _) _ _ (by simp)
 obtain⟨d0,d1,d2,d3,d4,d5,d6,d7⟩:=q0.cfg
 have HR:=hidden_ (And.intro rd (And.intro hc hfit))
 have HCN:=hidden_ (And.intro cl (And.intro cu (And.intro cd (And.intro cn (And.intro co (And.intro c0 FIT))))))
 clear rd hc hfit cl cu cd cn co c0 FIT
 go_enter Tryz.func33,Tryz.ntmps33
 go_wp2_with (first
  | (go_at_call 46;refine (k10 _).mono ?_;rintro e W1 ⟨rfl,h1⟩;replace q0:=q0.kept h1;replace qr:=qr.kept h1;replace hb:=below_then hb h1;clear h1 k10 d0 d1 d2 d3 d4 d5 d6 d7;obtain⟨d0,d1,d2,d3,d4,d5,d6,d7⟩:=q0.cfg)
  | (go_at_call 37;refine (k12 _).mono ?_;rintro e W2 ⟨rfl,h2⟩;replace q0:=q0.kept h2;replace qr:=qr.kept h2;replace hb:=below_then hb h2;obtain⟨A,eA⟩:∃ A,W2.alloc (.cells #[.slice (some xa) nW cW] 114)=A:=⟨_,rfl⟩;have bA:Below W2.heap.size W2 A:=eA ▸ below_new (Below.refl _ _) _;have zA:A.heap.size=W2.heap.size+1:=(by rw[←eA];simp);have qx:Blk 114 A W2.heap.size #[.slice (some xa) nW cW]:=eA ▸ Blk.new 114 W2 _;clear h2 k12 d0 d1 d2 d3 d4 d5 d6 d7;obtain⟨d0,d1,d2,d3,d4,d5,d6,d7⟩:=q0.cfg))
 have q0A:=q0.kept bA
 have qrA:=qr.kept bA
 have hs2:w.heap.size≤W2.heap.size:=hb.size
 have hrl:=qr.lt
 have hbA:=below_then hb bA
 clear d0 d1 d2 d3 d4 d5 d6 d7 q0 qr bA
 refine first_region (D:Int) h (ln:Int) v u x t n W2.heap.size w.heap.size xa.block nW ws cnt (by kernel_rfl) rfl ⟨_,rfl,rfl,rfl,rfl,by kernel_rfl⟩ ⟨_,rfl,rfl,rfl,rfl,by kernel_rfl⟩ ⟨_,rfl,rfl,rfl,rfl,by kernel_rfl⟩ ⟨_,rfl,rfl,rfl,rfl,by kernel_rfl⟩ ⟨_,rfl,rfl,rfl,rfl,by kernel_rfl⟩ ⟨_,rfl,rfl,rfl,rfl,by kernel_rfl⟩ ⟨_,rfl,rfl,rfl,rfl,by kernel_rfl⟩ ⟨_,rfl,rfl,rfl,rfl,by kernel_rfl⟩ ⟨_,rfl,rfl,rfl,rfl,by kernel_rfl⟩ ⟨_,rfl,rfl,rfl,rfl,by kernel_rfl⟩ (fun w=>by rw[HCN.out.2.2.2.2.2.1];go_simp;exact wrap_fits (by omega) (by omega)) q0A rfl rfl rfl ⟨xa,cW,by simpa using qx,rfl,by simpa using HR.out.1.below hbA,by have:=HR.out.2.1;omega⟩ (by have:=HCN.out.2.2.2.2.2.2 0 (by omega);simpa [offs] using this) hn (by omega) (by omega) (by omega) (Nat.le_of_ble_eq_true rfl) ?_
 intro a W3 mb sE hs hd hkp v8 hmb qm tE hcut on3
 have ep:=frame_puts [27,28,29,30,31,32,33,34,8] hs hd (fun s h'=>hkp s (firD_out h'))
 simp only[List.foldl] at ep
 rw[v8] at ep
 clear hs hd hkp v8 eA qx
 generalize a.tmps.getD 27 undef=g27,a.tmps.getD 28 undef=g28,a.tmps.getD 29 undef=g29,a.tmps.getD 30 undef=g30,a.tmps.getD 31 undef=g31,a.tmps.getD 32 undef=g32,a.tmps.getD 33 undef=g33,a.tmps.getD 34 undef=g34 at ep
 simp only[Act.put,List.setIfInBounds_toArray,List.set_cons_succ,List.set_cons_zero] at ep
 subst ep
 have INIT:Hid (ShI A W2.heap.size xa.block mb nW ws cnt 1 (fun sE L=>#[.int .i64 (D:Int),.int .i64 h,.int .i64 (ln:Int),.int .i64 v,.int .i64 u,.int .i64 x,.int .i64 t,.int .i64 n,.slice sE.a sE.n sE.c,.slice L.a L.n L.c,.slice none 0 0,.slice none 0 0]) sE (ofSeq ln 1 (seg cnt ws)) 0 W3):=⟨on3,(by rw[Nat.zero_mul];exact hcut),tE,⟨none,0,0⟩,(fun _ _=>SL.nought),(fun _ _=>SL.nought),(fun _ _=>SL.nought),qm,TL.nil _ _ _ _ _ _⟩
 have HA:=hidden_ (And.intro hbA (And.intro q0A (And.intro qrA (And.intro hmb (And.intro zA (And.intro hs2 hrl))))))
 have K55:∀ (k:Nat) (z:Int) (W:World),k<1+ln*pl 1+2→(cnt k:Int)=z→CutAt W W2.heap.size xa.block nW ws (offs cnt k)→Calls Tryz.prog 61 #[.pointer (some ⟨W2.heap.size,0,none⟩),.int .i64 z] W fun e W'=>∃ s:SL,e=.returned (.slice s.a s.n s.c)∧TS W.heap.size W' s (seg cnt ws k)∧CutAt W' W2.heap.size xa.block nW ws (offs cnt (k+1))∧Only W2.heap.size W W':=fun k z W hk hz hcu=>by
  rw[←hz]
  exact next_seg hcu (HCN.out.2.2.2.2.2.2 k hk) hn (by omega)
 clear hbA q0A qrA hmb zA on3 hcut tE qm hb
 go_wp2
 go_loopw [9,10,11] (fun i _ _ wr=>∃ k:Nat,k≤ln∧i=.int .i64 k∧ShI A W2.heap.size xa.block mb nW ws cnt 1 (fun sE L=>#[.int .i64 (D:Int),.int .i64 h,.int .i64 (ln:Int),.int .i64 v,.int .i64 u,.int .i64 x,.int .i64 t,.int .i64 n,.slice sE.a sE.n sE.c,.slice L.a L.n L.c,.slice none 0 0,.slice none 0 0]) sE (ofSeq ln 1 (seg cnt ws)) k wr) (fun i _ _ _=>ln - (intOf i).toNat)
 case atStart=>exact⟨0,Nat.zero_le _,rfl,INIT.out⟩
 case round =>
  obtain⟨k,hk,rfl,SH⟩:=hrel
  clear INIT
  obtain⟨WR,eWR⟩:∃ WR,WR=wr:=⟨_,rfl⟩
  subst eWR
  obtain⟨hbA,q0A,qrA,hmb,zA,hs2',hrl'⟩:=HA.out
  have sAW:=SH.only.size
  have q0R:=q0A.only SH.only (by omega)
  obtain⟨d0,d1,d2,d3,d4,d5,d6,d7⟩:=q0R.cfg
  by_cases hlt:k<ln
  ·have hlt':(k:Int)<(ln:Int):=by omega
   have hpl:(k+1)*pl 1≤ln*pl 1:=Nat.mul_le_mul_right _ (by omega)
   rw[Nat.add_mul,Nat.one_mul] at hpl
   have hpl2:pl 1=7+2*1:=rfl
   have xlt1:W2.heap.size<WR.heap.size:=by omega
   have slt1:xa.block<WR.heap.size:=by omega
   have bA1:Below WR.heap.size WR (WR.alloc (.cells #[.slice none 0 0,.slice none 0 0,.slice none 0 0,.slice none 0 0,.slice none 0 0,.slice none 0 0,.slice none 0 0,.slice none 0 0,.slice none 0 0] 61)):=below_new (Below.refl _ _) _
   have zA1:(WR.alloc (.cells #[.slice none 0 0,.slice none 0 0,.slice none 0 0,.slice none 0 0,.slice none 0 0,.slice none 0 0,.slice none 0 0,.slice none 0 0,.slice none 0 0] 61)).heap.size=WR.heap.size+1:=by simp
   have hS0:LayS WR W2.heap.size xa.block WR.heap.size nW ws cnt (1+k*pl 1+0) #[.slice none 0 0,.slice none 0 0,.slice none 0 0,.slice none 0 0,.slice none 0 0,.slice none 0 0,.slice none 0 0,.slice none 0 0,.slice none 0 0] (WR.alloc (.cells #[.slice none 0 0,.slice none 0 0,.slice none 0 0,.slice none 0 0,.slice none 0 0,.slice none 0 0,.slice none 0 0,.slice none 0 0,.slice none 0 0] 61)):=⟨Only.of_below bA1,SH.cut.below bA1,Blk.new 61 WR _⟩
   have HSH:=hidden_ SH
   have HQR:=hidden_ (And.intro q0R (And.intro zA1 (And.intro hpl hpl2)))
   have CC:Hid ((cnt (1+k*pl 1+0):Int)=(D:Int)∧(cnt (1+k*pl 1+1):Int)=(DD:Int)∧(cnt (1+k*pl 1+2):Int)=(DD:Int)∧(cnt (1+k*pl 1+3):Int)=(DD:Int)∧(cnt (1+k*pl 1+4):Int)=(DD:Int)∧(cnt (1+k*pl 1+5):Int)=(D:Int)∧(cnt (1+k*pl 1+6):Int)=(XD:Int)) :=
    ⟨by rw[HCN.out.1 k 0 hlt (by omega)];rfl,by rw[HCN.out.1 k 1 hlt (by omega)];rfl,by rw[HCN.out.1 k 2 hlt (by omega)];rfl,by rw[HCN.out.1 k 3 hlt (by omega)];rfl,by rw[HCN.out.1 k 4 hlt (by omega)];rfl,by rw[HCN.out.1 k 5 hlt (by omega)];rfl,by rw[HCN.out.1 k 6 hlt (by omega)];rfl⟩
   clear SH q0R q0A qrA hbA bA1 zA1 hmb zA hs2' hrl' hpl hpl2
   go_wp2_with (first
    | (go_at_call 61;refine (K55 (1+k*pl 1+0) (D:Int) _ (by have:=HQR.out.2.2;omega) CC.out.1 hS0.cut).mono ?_;rintro e Wc0 ⟨s0,rfl,ts0,hc0,on0⟩;obtain⟨V0,eV0,z0,o0,hS1,kp0,kq0⟩:=hS0.step (Nat.le_refl _) xlt1 slt1 on0 hc0 0 rfl s0 (cs':=#[.slice s0.a s0.n s0.c,.slice none 0 0,.slice none 0 0,.slice none 0 0,.slice none 0 0,.slice none 0 0,.slice none 0 0,.slice none 0 0,.slice none 0 0]) rfl;have t0:TS WR.heap.size V0 s0 (seg cnt ws (1+k*pl 1+0)):=(ts0.step kq0).le (by have:=HQR.out.2.1;omega); clear hS0 ts0 hc0 on0 d0 d1 d2 d3 d4 d5 d6 d7)
    | (go_at_call 61;refine (K55 (1+k*pl 1+1) (DD:Int) _ (by have:=HQR.out.2.2;omega) CC.out.2.1 hS1.cut).mono ?_;rintro e Wc1 ⟨s1,rfl,ts1,hc1,on1⟩;obtain⟨V1,eV1,z1,o1,hS2,kp1,kq1⟩:=hS1.step (Nat.le_refl _) xlt1 slt1 on1 hc1 1 rfl s1 (cs':=#[.slice s0.a s0.n s0.c,.slice s1.a s1.n s1.c,.slice none 0 0,.slice none 0 0,.slice none 0 0,.slice none 0 0,.slice none 0 0,.slice none 0 0,.slice none 0 0]) rfl;have t1:TS WR.heap.size V1 s1 (seg cnt ws (1+k*pl 1+1)):=(ts1.step kq1).le hS1.only.size;replace t0:=t0.step kp1;clear hS1 ts1 hc1 on1 eV0 z0 o0 kp0 kq0)
    | (go_at_call 61;refine (K55 (1+k*pl 1+2) (DD:Int) _ (by have:=HQR.out.2.2;omega) CC.out.2.2.1 hS2.cut).mono ?_;rintro e Wc2 ⟨s2,rfl,ts2,hc2,on2⟩;obtain⟨V2,eV2,z2,o2,hS3,kp2,kq2⟩:=hS2.step (Nat.le_refl _) xlt1 slt1 on2 hc2 2 rfl s2 (cs':=#[.slice s0.a s0.n s0.c,.slice s1.a s1.n s1.c,.slice s2.a s2.n s2.c,.slice none 0 0,.slice none 0 0,.slice none 0 0,.slice none 0 0,.slice none 0 0,.slice none 0 0]) rfl;have t2:TS WR.heap.size V2 s2 (seg cnt ws (1+k*pl 1+2)):=(ts2.step kq2).le hS2.only.size;replace t0:=t0.step kp2;replace t1:=t1.step kp2;clear hS2 ts2 hc2 on2 eV1 z1 o1 kp1 kq1)
    | (go_at_call 61;refine (K55 (1+k*pl 1+3) (DD:Int) _ (by have:=HQR.out.2.2;omega) CC.out.2.2.2.1 hS3.cut).mono ?_;rintro e Wc3 ⟨s3,rfl,ts3,hc3,on3⟩;obtain⟨V3,eV3,z3,o3,hS4,kp3,kq3⟩:=hS3.step (Nat.le_refl _) xlt1 slt1 on3 hc3 3 rfl s3 (cs':=#[.slice s0.a s0.n s0.c,.slice s1.a s1.n s1.c,.slice s2.a s2.n s2.c,.slice s3.a s3.n s3.c,.slice none 0 0,.slice none 0 0,.slice none 0 0,.slice none 0 0,.slice none 0 0]) rfl;have t3:TS WR.heap.size V3 s3 (seg cnt ws (1+k*pl 1+3)):=(ts3.step kq3).le hS3.only.size;replace t0:=t0.step kp3;replace t1:=t1.step kp3;replace t2:=t2.step kp3;clear hS3 ts3 hc3 on3 eV2 z2 o2 kp2 kq2)
    | (go_at_call 61;refine (K55 (1+k*pl 1+4) (DD:Int) _ (by have:=HQR.out.2.2;omega) CC.out.2.2.2.2.1 hS4.cut).mono ?_;rintro e Wc4 ⟨s4,rfl,ts4,hc4,on4⟩;obtain⟨V4,eV4,z4,o4,hS5,kp4,kq4⟩:=hS4.step (Nat.le_refl _) xlt1 slt1 on4 hc4 4 rfl s4 (cs':=#[.slice s0.a s0.n s0.c,.slice s1.a s1.n s1.c,.slice s2.a s2.n s2.c,.slice s3.a s3.n s3.c,.slice s4.a s4.n s4.c,.slice none 0 0,.slice none 0 0,.slice none 0 0,.slice none 0 0]) rfl;have t4:TS WR.heap.size V4 s4 (seg cnt ws (1+k*pl 1+4)):=(ts4.step kq4).le hS4.only.size;replace t0:=t0.step kp4;replace t1:=t1.step kp4;replace t2:=t2.step kp4;replace t3:=t3.step kp4;clear hS4 ts4 hc4 on4 eV3 z3 o3 kp3 kq3)
    | (go_at_call 61;refine (K55 (1+k*pl 1+5) (D:Int) _ (by have:=HQR.out.2.2;omega) CC.out.2.2.2.2.2.1 hS5.cut).mono ?_;rintro e Wc5 ⟨s5,rfl,ts5,hc5,on5⟩;obtain⟨V5,eV5,z5,o5,hS6,kp5,kq5⟩:=hS5.step (Nat.le_refl _) xlt1 slt1 on5 hc5 5 rfl s5 (cs':=#[.slice s0.a s0.n s0.c,.slice s1.a s1.n s1.c,.slice s2.a s2.n s2.c,.slice s3.a s3.n s3.c,.slice s4.a s4.n s4.c,.slice s5.a s5.n s5.c,.slice none 0 0,.slice none 0 0,.slice none 0 0]) rfl;have t5:TS WR.heap.size V5 s5 (seg cnt ws (1+k*pl 1+5)):=(ts5.step kq5).le hS5.only.size;replace t0:=t0.step kp5;replace t1:=t1.step kp5;replace t2:=t2.step kp5;replace t3:=t3.step kp5;replace t4:=t4.step kp5;clear hS5 ts5 hc5 on5 eV4 z4 o4 kp4 kq4;obtain⟨d0,d1,d2,d3,d4,d5,d6,d7⟩:=(HQR.out.1.only hS6.only (by omega)).cfg)
    | (go_at_call 61;refine (K55 (1+k*pl 1+6) (XD:Int) _ (by have:=HQR.out.2.2;omega) CC.out.2.2.2.2.2.2 hS6.cut).mono ?_;rintro e Wc6 ⟨s6,rfl,ts6,hc6,on6⟩;obtain⟨V6,eV6,z6,o6,hS7,kp6,kq6⟩:=hS6.step (Nat.le_refl _) xlt1 slt1 on6 hc6 6 rfl s6 (cs':=#[.slice s0.a s0.n s0.c,.slice s1.a s1.n s1.c,.slice s2.a s2.n s2.c,.slice s3.a s3.n s3.c,.slice s4.a s4.n s4.c,.slice s5.a s5.n s5.c,.slice s6.a s6.n s6.c,.slice none 0 0,.slice none 0 0]) rfl;have t6:TS WR.heap.size V6 s6 (seg cnt ws (1+k*pl 1+6)):=(ts6.step kq6).le hS6.only.size;replace t0:=t0.step kp6;replace t1:=t1.step kp6;replace t2:=t2.step kp6;replace t3:=t3.step kp6;replace t4:=t4.step kp6;replace t5:=t5.step kp6;clear hS6 ts6 hc6 on6 eV5 z5 o5 kp5 kq5))
   clear z6 o6 eV6 kp6 kq6 d0 d1 d2 d3 d4 d5 d6 d7
   have NI0:Hid (NetI WR V6 W2.heap.size xa.block WR.heap.size nW ws cnt (1+k*pl 1+7) (fun uu dd=>#[.slice s0.a s0.n s0.c,.slice s1.a s1.n s1.c,.slice s2.a s2.n s2.c,.slice s3.a s3.n s3.c,.slice s4.a s4.n s4.c,.slice s5.a s5.n s5.c,.slice s6.a s6.n s6.c,.slice uu.a uu.n uu.c,.slice dd.a dd.n dd.c]) ((ofSeq ln 1 (seg cnt ws)).u k) ((ofSeq ln 1 (seg cnt ws)).d k) 0 V6):=⟨hS7.only,hS7.cut,⟨⟨none,0,0⟩,⟨none,0,0⟩,(fun _=>SL.nought),(fun _=>SL.nought),hS7.blk,TG.nil _ _ _ _,TG.nil _ _ _ _,(fun g hg=>by cases hg)⟩,Keeps.refl _ _,Nat.le_refl _⟩
   have HT:=hidden_ (And.intro t0 (And.intro t1 (And.intro t2 (And.intro t3 (And.intro t4 (And.intro t5 t6))))))
   clear t0 t1 t2 t3 t4 t5 t6 hS7
   go_loopw [11] (fun j wr=>∃ q:Nat,q≤1∧j=.int .i64 q∧NetI WR V6 W2.heap.size xa.block WR.heap.size nW ws cnt (1+k*pl 1+7) (fun uu dd=>#[.slice s0.a s0.n s0.c,.slice s1.a s1.n s1.c,.slice s2.a s2.n s2.c,.slice s3.a s3.n s3.c,.slice s4.a s4.n s4.c,.slice s5.a s5.n s5.c,.slice s6.a s6.n s6.c,.slice uu.a uu.n uu.c,.slice dd.a dd.n dd.c]) ((ofSeq ln 1 (seg cnt ws)).u k) ((ofSeq ln 1 (seg cnt ws)).d k) q wr) (fun j _=>1 - (intOf j).toNat)
   case atStart=>exact⟨0,Nat.zero_le _,rfl,NI0.out⟩
   case round =>
    obtain⟨q,hq,rfl,NI⟩:=hrel
    clear NI0
    have q0q:=HQR.out.1.only NI.only (by omega)
    obtain⟨d0,d1,d2,d3,d4,d5,d6,d7⟩:=q0q.cfg
    by_cases hl2:q<1
    ·have hz3:(q:Int)<1:=by omega
     obtain⟨uu,dd,RU,RD,qlb,tU,tD,hap⟩:=NI.nets
     have HNI:=hidden_ NI
     have hsz:=NI.only.size
     clear NI q0q
     go_wp2
     refine net_regionU (D:Int) h (ln:Int) v u x t n 88 7 W2.heap.size w.heap.size xa.block WR.heap.size nW (1+k*pl 1+7+2*q) q WR.heap.size ws cnt _ uu.a uu.n uu.c RU ((ofSeq ln 1 (seg cnt ws)).u k) WR (by kernel_rfl) rfl ⟨_,rfl,rfl,rfl,rfl,by kernel_rfl⟩ ⟨_,rfl,rfl,rfl,rfl,by kernel_rfl⟩ ⟨_,rfl,rfl,rfl,rfl,by kernel_rfl⟩ ⟨_,rfl,rfl,rfl,rfl,by kernel_rfl⟩ ⟨_,rfl,rfl,rfl,rfl,by kernel_rfl⟩ ⟨_,rfl,rfl,rfl,rfl,by kernel_rfl⟩ ⟨_,rfl,rfl,rfl,rfl,by kernel_rfl⟩ ⟨_,rfl,rfl,rfl,rfl,by kernel_rfl⟩ ⟨_,rfl,rfl,rfl,rfl,by kernel_rfl⟩ ⟨_,rfl,rfl,rfl,rfl,by kernel_rfl⟩ ⟨_,rfl,rfl,rfl,rfl,by kernel_rfl⟩ ⟨_,rfl,rfl,rfl,rfl,by kernel_rfl⟩ (fun w=>by rw[HCN.out.2.1 k q hlt hl2];go_simp;exact wrap_fits (by omega) (by omega)) (by decide) (Nat.le_of_ble_eq_true rfl) (by decide) HQR.out.1 rfl rfl rfl rfl HNI.out.only HNI.out.cut (HCN.out.2.2.2.2.2.2 _ (by have:=HQR.out.2.2;omega)) hn (by omega) (by omega) xlt1 slt1 (Nat.le_refl _) (Nat.le_refl _) hsz qlb rfl tU rfl (by omega) ?_
     intro a X1 vU SU hs hd hkp onX cutX blkX tgX obX k46X kbX szX
     have ep:=frame_puts [88,89,90,91,92,93,94,95,96,97,98] hs hd (fun s h'=>hkp s (by simp at h';omega))
     simp only[List.foldl] at ep
     clear hs hd hkp d0 d1 d2 d3 d4 d5 d6 d7
     generalize a.tmps.getD 88 undef=g88,a.tmps.getD 89 undef=g89,a.tmps.getD 90 undef=g90,a.tmps.getD 91 undef=g91,a.tmps.getD 92 undef=g92,a.tmps.getD 93 undef=g93,a.tmps.getD 94 undef=g94,a.tmps.getD 95 undef=g95,a.tmps.getD 96 undef=g96,a.tmps.getD 97 undef=g97,a.tmps.getD 98 undef=g98 at ep
     simp only[Act.put,List.setIfInBounds_toArray,List.set_cons_succ,List.set_cons_zero] at ep
     subst ep
     obtain⟨ua,un,uc,euv⟩:=tgX.slice
     subst euv
     have tDX:=tD.but kbX (fun g hg hu=>hap g hu hg) k46X
     go_wp2
     refine net_regionD (D:Int) h (ln:Int) v u x t n 99 8 W2.heap.size w.heap.size xa.block WR.heap.size nW (1+k*pl 1+7+2*q+1) q WR.heap.size ws cnt _ dd.a dd.n dd.c RD ((ofSeq ln 1 (seg cnt ws)).d k) WR (by kernel_rfl) rfl ⟨_,rfl,rfl,rfl,rfl,by kernel_rfl⟩ ⟨_,rfl,rfl,rfl,rfl,by kernel_rfl⟩ ⟨_,rfl,rfl,rfl,rfl,by kernel_rfl⟩ ⟨_,rfl,rfl,rfl,rfl,by kernel_rfl⟩ ⟨_,rfl,rfl,rfl,rfl,by kernel_rfl⟩ ⟨_,rfl,rfl,rfl,rfl,by kernel_rfl⟩ ⟨_,rfl,rfl,rfl,rfl,by kernel_rfl⟩ ⟨_,rfl,rfl,rfl,rfl,by kernel_rfl⟩ ⟨_,rfl,rfl,rfl,rfl,by kernel_rfl⟩ ⟨_,rfl,rfl,rfl,rfl,by kernel_rfl⟩ ⟨_,rfl,rfl,rfl,rfl,by kernel_rfl⟩ ⟨_,rfl,rfl,rfl,rfl,by kernel_rfl⟩ (fun w=>by rw[HCN.out.2.2.1 k q hlt hl2];go_simp;exact wrap_fits (by omega) (by omega)) (by decide) (Nat.le_of_ble_eq_true rfl) (by decide) HQR.out.1 rfl rfl rfl rfl onX cutX (HCN.out.2.2.2.2.2.2 _ (by have:=HQR.out.2.2;omega)) hn (by omega) (by omega) xlt1 slt1 (Nat.le_refl _) (Nat.le_refl _) (Nat.le_trans hsz szX) blkX rfl tDX rfl (by omega) ?_
     intro a X2 vD SD hs hd hkp onY cutY blkY tgY obY k46Y kbY szY
     have ep:=frame_puts [99,100,101,102,103,104,105,106,107,108,109] hs hd (fun s h'=>hkp s (by simp at h';omega))
     simp only[List.foldl] at ep
     clear hs hd hkp
     generalize a.tmps.getD 99 undef=g99,a.tmps.getD 100 undef=g100,a.tmps.getD 101 undef=g101,a.tmps.getD 102 undef=g102,a.tmps.getD 103 undef=g103,a.tmps.getD 104 undef=g104,a.tmps.getD 105 undef=g105,a.tmps.getD 106 undef=g106,a.tmps.getD 107 undef=g107,a.tmps.getD 108 undef=g108,a.tmps.getD 109 undef=g109 at ep
     simp only[Act.put,List.setIfInBounds_toArray,List.set_cons_succ,List.set_cons_zero] at ep
     subst ep
     obtain⟨da,dn,dc,edv⟩:=tgY.slice
     subst edv
     have hap2:=apart_of hap tD tgX obX obY
     have tUY:=tgX.but kbY (fun g hg hd'=>apart_of hap tD tgX obX (.inl rfl) g hg hd') k46Y
     have NX:Hid (NetI WR V6 W2.heap.size xa.block WR.heap.size nW ws cnt (1+k*pl 1+7) (fun uu dd=>#[.slice s0.a s0.n s0.c,.slice s1.a s1.n s1.c,.slice s2.a s2.n s2.c,.slice s3.a s3.n s3.c,.slice s4.a s4.n s4.c,.slice s5.a s5.n s5.c,.slice s6.a s6.n s6.c,.slice uu.a uu.n uu.c,.slice dd.a dd.n dd.c]) ((ofSeq ln 1 (seg cnt ws)).u k) ((ofSeq ln 1 (seg cnt ws)).d k) (q+1) X2):=⟨onY,(by rw[show 1+k*pl 1+7+2*(q+1)=1+k*pl 1+7+2*q+1+1 by omega];exact cutY),⟨⟨ua,un,uc⟩,⟨da,dn,dc⟩,_,_,blkY,tUY,tgY,hap2⟩,(HNI.out.k46.trans k46X).trans k46Y,Nat.le_trans (Nat.le_trans HNI.out.size szX) szY⟩
     clear onY cutY blkY tgY obY k46Y kbY szY onX cutX blkX tgX obX k46X kbX szX tDX tU tD hap hap2 tUY HNI qlb
     go_wp2
     go_roundw
     case rel=>exact⟨q+1,by omega,by go_num,NX.out⟩
     case measure=>simp[intOf];omega
    ·have hz3:¬(q:Int)<1:=by omega
     have hz4:decide ((q:Int)<1)=false:=by simp;omega
     obtain rfl:1=q:=by omega
     obtain⟨uu,dd,RU,RD,qlb,tU,tD,hap⟩:=NI.nets
     obtain⟨Y,eY⟩:∃ Y,wr=Y:=⟨_,rfl⟩
     subst eY
     have kWR:∀ t,t≠114→Keeps t WR wr:=fun t ht=>HSH.out.cut.keeps NI.only ht
     obtain⟨t0,t1,t2,t3,t4,t5,t6⟩:=HT.out
     obtain⟨L,YL,UL,DL,qmb,tL⟩:=HSH.out.mod
     have qmy:=(kWR 34 (by decide)).blk qmb
     have tLy:=tL.step (kWR 61 (by decide)) (kWR 118 (by decide)) (kWR 31 (by decide))
     have tEy:=HSH.out.te.step (kWR 118 (by decide))
     obtain⟨A3,eA3⟩:∃ A3,wr.alloc (.cells #[.slice s0.a s0.n s0.c,.slice s1.a s1.n s1.c,.slice s2.a s2.n s2.c,.slice s3.a s3.n s3.c,.slice s4.a s4.n s4.c,.slice s5.a s5.n s5.c,.slice s6.a s6.n s6.c,.slice uu.a uu.n uu.c,.slice dd.a dd.n dd.c] 61)=A3:=⟨_,rfl⟩
     have bA3:Below wr.heap.size wr A3:=eA3 ▸ below_new (Below.refl _ _) _
     have gA3:Blk 61 A3 wr.heap.size ((List.range 9).map fun r=>(nine s0 s1 s2 s3 s4 s5 s6 uu dd r).v).toArray:=eA3 ▸ Blk.new 61 wr _
     have sW:=NI.only.size
     have K46:Keeps 118 V6 A3:=NI.k46.trans (Keeps.of_below bA3)
     have sAW2:=HSH.out.only.size
     have hY:TY A.heap.size A3 (nine s0 s1 s2 s3 s4 s5 s6 uu dd) RU RD ((ofSeq ln 1 (seg cnt ws)).f k) ((ofSeq ln 1 (seg cnt ws)).un k) ((ofSeq ln 1 (seg cnt ws)).dn k) ((ofSeq ln 1 (seg cnt ws)).u k) ((ofSeq ln 1 (seg cnt ws)).d k):=⟨fun j hj=>by
      rcases (show j=0∨j=1∨j=2∨j=3∨j=4∨j=5∨j=6 by omega) with rfl | rfl | rfl | rfl | rfl | rfl | rfl
      ·exact (t0.step K46).le sAW2
      ·exact (t1.step K46).le sAW2
      ·exact (t2.step K46).le sAW2
      ·exact (t3.step K46).le sAW2
      ·exact (t4.step K46).le sAW2
      ·exact (t5.step K46).le sAW2
      ·exact (t6.step K46).le sAW2,(tU.below (B':=0) bA3).le sAW2,(tD.below (B':=0) bA3).le sAW2⟩
     have c0:=qlb.cell 0 rfl
     have c1:=qlb.cell 1 rfl
     have c2:=qlb.cell 2 rfl
     have c3:=qlb.cell 3 rfl
     have c4:=qlb.cell 4 rfl
     have c5:=qlb.cell 5 rfl
     have c6:=qlb.cell 6 rfl
     have c7:=qlb.cell 7 rfl
     have c8:=qlb.cell 8 rfl
     have c9:=qmy.cell 9 rfl
     have tL3:=tLy.below bA3
     have tE3:=tEy.below bA3
     have qm3:=qmy.kept bA3
     have on3':Only W2.heap.size A A3:=(HSH.out.only.trans NI.only).trans (Only.of_below bA3)
     have cut3:=NI.cut.below bA3
     have hmb':=HA.out.2.2.2.1
     have zA':=HA.out.2.2.2.2.1
     clear NI q0q kWR t0 t1 t2 t3 t4 t5 t6 qmb tL qmy tLy tEy K46 tU tD hap qlb bA3
     go_wp2_with (first
      | (at_builtin;refine wpList_layer2 rfl (.tmp 111) (.tmp 113) rfl A.heap.size k _ YL UL DL (ofSeq ln 1 (seg cnt ws)) _ RU RD wr.heap.size 1 rfl rfl tL3 gA3 hY (by omega) on3'.size ?_;intro v' w6 hg6 hob6 k29 k46 tL6;obtain⟨Ls,eLs⟩:=tL6.slice;subst eLs;have qm6:=k29.blk qm3;obtain⟨V9,eV9,z9,o9,q9,on9,k9⟩:=fin12 qm6 9 Ls (cs':=#[.int .i64 (D:Int),.int .i64 h,.int .i64 (ln:Int),.int .i64 v,.int .i64 u,.int .i64 x,.int .i64 t,.int .i64 n,.slice sE.a sE.n sE.c,.slice Ls.a Ls.n Ls.c,.slice none 0 0,.slice none 0 0]) rfl rfl;have NS:Hid (ShI A W2.heap.size xa.block mb nW ws cnt 1 (fun sE L=>#[.int .i64 (D:Int),.int .i64 h,.int .i64 (ln:Int),.int .i64 v,.int .i64 u,.int .i64 x,.int .i64 t,.int .i64 n,.slice sE.a sE.n sE.c,.slice L.a L.n L.c,.slice none 0 0,.slice none 0 0]) sE (ofSeq ln 1 (seg cnt ws)) (k+1) V9):=⟨(on3'.grown hg6 hob6).new hmb' on9,(by rw[show 1+(k+1)*pl 1=1+k*pl 1+7+2*1 by rw[Nat.add_mul];show _=1+k*(7+2*1)+7+2*1;show 1+(k*(7+2*1)+1*(7+2*1))=_;omega];exact (cut3.grown hg6 (fun e=>by have:=hob6 _ e;omega) (fun e=>by have:=hob6 _ e;omega)).only on9 (by omega) (by omega)),(tE3.step k46).step (k9 118 (by decide)),⟨Ls,_,_,_,q9,tL6.step (k9 61 (by decide)) (k9 118 (by decide)) (k9 31 (by decide))⟩⟩;clear hg6 hob6 k29 k46 tL6 qm6 q9 on9 k9 tL3 gA3 hY tE3 qm3 on3' cut3)
      )
     go_roundw
     case rel=>exact⟨k+1,by omega,by go_num,NS.out⟩
     case measure=>simp[intOf];omega
  ·have hge:¬(k:Int)<(ln:Int):=by omega
   have hge':decide ((k:Int)<(ln:Int))=false:=by simp;omega
   have ekl:k=ln:=by omega
   obtain⟨L,YL,UL,DL,qmb,tL⟩:=SH.mod
   have tE:=SH.te
   have onA:=SH.only
   have hcN:CutAt WR W2.heap.size xa.block nW ws (offs cnt (1+ln*pl 1)):=by rw[←ekl];exact SH.cut
   have tL':TL A.heap.size WR (.slice L.a L.n L.c) ln YL UL DL (ofSeq ln 1 (seg cnt ws)):=by have h':=tL;rw[show k=ln from ekl] at h';exact h'
   have hqr:=HA.out.2.2.1
   have hbA':=HA.out.1
   have hmb':=HA.out.2.2.2.1
   have hsz7:=HA.out.2.2.2.2
   have EK:=hidden_ ekl
   clear SH tL ekl hbA q0A qrA hmb zA hs2' hrl'
   go_wp2_with (first
    | (go_at_call 61;refine (K55 (1+ln*pl 1) (D:Int) _ (by omega) (by rw[HCN.out.2.2.2.1]) hcN).mono ?_;rintro e X1 ⟨sN,rfl,tN,hcO,on1⟩;have kx:∀ t,t≠114→Keeps t WR X1:=fun t ht=>hcN.keeps on1 ht;obtain⟨X2,eX2,z10,o10,q2,on2,k2⟩:=fin12 ((kx 34 (by decide)).blk qmb) 10 sN (cs':=#[.int .i64 (D:Int),.int .i64 h,.int .i64 (ln:Int),.int .i64 v,.int .i64 u,.int .i64 x,.int .i64 t,.int .i64 n,.slice sE.a sE.n sE.c,.slice L.a L.n L.c,.slice sN.a sN.n sN.c,.slice none 0 0]) rfl rfl;have k12:∀ t,t≠114→t≠34→Keeps t WR X2:=fun t h1 h2=>(kx t h1).trans (k2 t h2);have onX2:Only W2.heap.size A X2:=(onA.trans on1).new hmb' on2;replace tE:=tE.step (k12 118 (by decide) (by decide));replace tN:=(tN.le onA.size).step (k2 118 (by decide));replace tL':=tL'.step (k12 61 (by decide) (by decide)) (k12 118 (by decide) (by decide)) (k12 31 (by decide) (by decide));replace hcO:=hcO.only on2 (by have:=hsz7.1;omega) (by have:=hsz7.1;omega);clear hcN on1 kx on2 k2 k12 qmb d0 d1 d2 d3 d4 d5 d6 d7;obtain⟨d0,d1,d2,d3,d4,d5,d6,d7⟩:=(HA.out.2.1.only onX2 (by omega)).cfg)
    | (go_at_call 61;refine (K55 (1+ln*pl 1+1) (VD:Int) _ (by omega) (by rw[HCN.out.2.2.2.2.1]) hcO).mono ?_;rintro e X3 ⟨sO,rfl,tO,hcX,on3⟩;have kx:∀ t,t≠114→Keeps t X2 X3:=fun t ht=>hcO.keeps on3 ht;obtain⟨X4,eX4,z11,o11,q4,on4,k4⟩:=fin12 ((kx 34 (by decide)).blk q2) 11 sO (cs':=#[.int .i64 (D:Int),.int .i64 h,.int .i64 (ln:Int),.int .i64 v,.int .i64 u,.int .i64 x,.int .i64 t,.int .i64 n,.slice sE.a sE.n sE.c,.slice L.a L.n L.c,.slice sN.a sN.n sN.c,.slice sO.a sO.n sO.c]) rfl rfl;have k34:∀ t,t≠114→t≠34→Keeps t X2 X4:=fun t h1 h2=>(kx t h1).trans (k4 t h2);have onX4:Only W2.heap.size A X4:=(onX2.trans on3).new hmb' on4;replace tE:=tE.step (k34 118 (by decide) (by decide));replace tN:=tN.step (k34 118 (by decide) (by decide));replace tO:=(tO.le onX2.size).step (k4 118 (by decide));replace tL':=tL'.step (k34 61 (by decide) (by decide)) (k34 118 (by decide) (by decide)) (k34 31 (by decide) (by decide));have qr4:=hqr.only onX4 (by have:=hsz7;omega);clear hcO on3 kx on4 k4 k34 q2 onX2 hcX d0 d1 d2 d3 d4 d5 d6 d7 z10 o10 eX2;obtain⟨a0,a1,a2,a3,a4,a5,a6,a7,a8,a9,a10,a11⟩:=q4.c12;obtain⟨r0,r1,r2,r3,r4,r5,r6,r7,r8,r9,r10,r11⟩:=qr4.c12;obtain⟨f0,f1,f2,f3,f4,f5,f6,f7,f8,f9,f10,f11⟩:=qr4.o12))
   obtain⟨W6,eW6,q6,only6,hz6⟩:=set12 qr4 (.int .i64 (D:Int)) (.int .i64 h) (.int .i64 (ln:Int)) (.int .i64 v) (.int .i64 u) (.int .i64 x) (.int .i64 t) (.int .i64 n) (.slice sE.a sE.n sE.c) (.slice L.a L.n L.c) (.slice sN.a sN.n sN.c) (.slice sO.a sO.n sO.c)
   rw[eW6]
   have K6:∀ t,t≠34→Keeps t X4 W6:=fun t ht=>Keeps.of_only only6 qr4 ht
   have hle:w.heap.size≤A.heap.size:=by omega
   have tL6:TL w.heap.size W6 (.slice L.a L.n L.c) (ofSeq ln 1 (seg cnt ws)).ln YL UL DL (ofSeq ln 1 (seg cnt ws)):=(tL'.step (K6 61 (by decide)) (K6 118 (by decide)) (K6 31 (by decide))).le hle
   obtain⟨L2,eL2,hN⟩:=tL6.new (E:=sE) (N:=sN) (O:=sO) ((tE.step (K6 118 (by decide))).le hle) ((tN.step (K6 118 (by decide))).le hle) ((tO.step (K6 118 (by decide))).le hle)
   obtain rfl:L=L2:=SL.v_inj eL2
   have bX4:Below w.heap.size w X4:=Only.below hbA' (by omega) hbA'.size onX4
   have bW6:Below w.heap.size w W6:=Only.below bX4 (by omega) bX4.size only6
   refine bodyPost_ret (v:=.tuple #[.agg #[.int .i64 (D:Int),.int .i64 h,.int .i64 (ln:Int),.int .i64 v,.int .i64 u,.int .i64 x,.int .i64 t,.int .i64 n,.slice sE.a sE.n sE.c,.slice L.a L.n L.c,.slice sN.a sN.n sN.c,.slice sO.a sO.n sO.c],.int .i64 0]) ?_ rfl ⟨sE,L,sN,sO,YL,UL,DL,rfl,⟨tL6,(tE.step (K6 118 (by decide))).le hle,(tN.step (K6 118 (by decide))).le hle,(tO.step (K6 118 (by decide))).le hle⟩,bW6⟩
   obtain⟨y0,y1,y2,y3,y4,y5,y6,y7,y8,y9,y10,y11⟩:=q6.c12
   simp[results,Tryz.results33,go_sem,y0,y1,y2,y3,y4,y5,y6,y7,y8,y9,y10,y11]
end
section
theorem zero_row {t:TypeId} {W:World} {b:Nat} (q:Blk t W b (Array.replicate 34 (.int .i8 0))):IsS W ⟨some ⟨b,0,none⟩,34,34⟩ zeroW :=
 ⟨⟨rfl,(by show (34:Nat)≤_;omega),fun i=>by
  unfold zeroW
  rw[List.getD_eq_getElem?_getD,List.getElem?_replicate]
  split<;>exact wf_nought _,fun _=>⟨_,rfl⟩,fun x hx i hi=>by
  obtain rfl:=Option.some.inj hx
  have hi':i<34:=hi
  rw[add_at]
  refine q.cell i ?_
  unfold zeroW
  rw[List.getD_eq_getElem?_getD,List.getElem?_replicate,if_pos hi',Array.getElem?_replicate,if_pos hi']
  rfl⟩,(fun h=>by cases h),Nat.le_refl _⟩
theorem zero_shape (w:World) (yb:Nat) (hz:IsS w ⟨some ⟨yb,0,none⟩,34,34⟩ zeroW) :
  Calls Tryz.prog 33 #[.agg #[.int .i64 2,.int .i64 1,.int .i64 1,.int .i64 2,.int .i64 1,.int .i64 0,.int .i64 0,.int .i64 0],.slice (some ⟨yb,0,none⟩) 34 34] w fun e w'=>∃ t:MT,e=.returned (.tuple #[.agg #[.int .i64 2,.int .i64 1,.int .i64 1,.int .i64 2,.int .i64 1,.int .i64 0,.int .i64 0,.int .i64 0,.slice t.E.a t.E.n t.E.c,.slice t.L.a t.L.n t.L.c,.slice t.N.a t.N.n t.N.c,.slice t.O.a t.O.n t.O.c],.int .i64 0])∧TMin w.heap.size w'.heap.size w' t zeroV∧Below w.heap.size w w':=by
 have k10:∀ w,Calls Tryz.prog 46 #[.agg #[.int .i64 2,.int .i64 1,.int .i64 1,.int .i64 2,.int .i64 1,.int .i64 0,.int .i64 0,.int .i64 0]] w fun e w'=>e=.returned (.bool true)∧Below w.heap.size w w':=fun w=>by
  have:=refConfig_call 2 1 1 2 1 0 0 0 w
  rw[sm_ok] at this
  exact this
 have k12:∀ w,Calls Tryz.prog 37 #[.agg #[.int .i64 2,.int .i64 1,.int .i64 1,.int .i64 2,.int .i64 1,.int .i64 0,.int .i64 0,.int .i64 0]] w fun e w'=>e=.returned (.int .i64 34)∧Below w.heap.size w w':=fun w=>by
  have:=refSize_call 2 1 1 2 1 0 0 0 w
  rw[show sizeB 2 1 1 2 1 0 0 0=34 by decide +kernel] at this
  exact this
 have hy:yb<w.heap.size:=by
  have:=World.block_lt_of_cell? _ _ (hz.reads.cell ⟨yb,0,none⟩ rfl 0 (by show 0<34;omega))
  rw[add_at] at this
  exact this
 have key:=refShape_typed 1 2 1 0 0 0 2 4 0 2 4 1 34 34 ⟨yb,0,none⟩ zeroW (by decide) (by decide) (by decide) (by decide) (by decide) (by decide) (by decide) (by decide) (by decide) (by decide) (by decide) (by decide) w k10 k12 hz.reads (Nat.le_refl _) (by decide) (by decide +kernel) hy
 refine key.mono fun e w' hh=>?_
 obtain⟨E,L,N,O,Y,U,D,he,ht,hb⟩:=hh
 exact⟨⟨E,L,N,O,Y,U,D⟩,he,TMin.of ht,hb⟩
end
end Go.Proofs.YtbkjhfmehemgpaaGreat

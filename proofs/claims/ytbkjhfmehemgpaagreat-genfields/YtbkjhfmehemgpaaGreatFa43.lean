/- Texts put together: GxTk, GxVe, GxAn, GxMd, GxOp. -/
import Derived.Test.YtbkjhfmehemgpaaGreatRows
import Derived.Test.YtbkjhfmehemgpaaGreatFa42
import Derived.Test.YtbkjhfmehemgpaaGreatFa6
import Derived.Deep.Onto
import Derived.Laws.CopyOwn
import Derived.Laws.Tables
namespace Go.Proofs.YtbkjhfmehemgpaaGreat
set_option maxRecDepth 20000
set_option maxHeartbeats 16000000
open Go.ChangeShapes Go.WideShapes Go.ChangeAt Go.RowKit
set_option linter.unusedVariables false
set_option linter.unusedSimpArgs false
section
def tokGo (nx:List Int→Int) (S:Int):Nat→List Int→List Int
 | 0,ts=>ts
 | k+1,ts=>if nx ts=S then ts++[nx ts] else tokGo nx S k (ts++[nx ts])
def nxZ (r:Rq) (ps:List Int) (ts:List Int):Int:=nextZ r (ps++ts) ts.length
def tokensZ (r:Rq) (ps:List Int):List Int:=tokGo (nxZ r ps) r.q.S r.q.L.toNat []
theorem placeN_lt {xs:List Int} (h:0<xs.length) (i:Nat):(places xs).getD i 0<xs.length:=by
 by_cases hi:i<(places xs).length
 ·have e:(places xs).getD i 0=(places xs)[i]:=by simp[hi]
  rw[e]
  have hm:(places xs)[i]∈places xs:=List.getElem_mem hi
  unfold places at hm
  rw[List.mem_mergeSort] at hm
  exact List.mem_range.1 hm
 ·have e:(places xs).getD i 0=0:=by simp[hi]
  rw[e]
  exact h
theorem maxZ_range {xs:List Int} (h:0<xs.length):0≤maxZ xs∧maxZ xs<xs.length:=by
 unfold maxZ
 rw[if_neg (by omega)]
 have:=placeN_lt h 0
 omega
theorem chooseZ_range {xs:List Int} {k h u:Int} (hx:0<xs.length):0≤chooseZ xs k h u∧chooseZ xs k h u<xs.length:=by
 unfold chooseZ
 split
 ·exact maxZ_range hx
 ·split
  ·exact maxZ_range hx
  ·have:=placeN_lt hx (seatZ (shZ xs h (manyZ xs k)) (manyZ xs k) (u % upTo (shZ xs h (manyZ xs k)) (manyZ xs k)))
   omega
theorem scoreL_length {M:Md} (K:MdOk M) (l:List Int):((scoreL M l).length:Int)=M.v:=by
 have F:=K.fit
 have hv:=F.v0
 have d0:=F.d0
 have eO:=F.o
 unfold scoreL matL lastL
 rw[List.length_map,List.length_range,outF_length]
 have e:M.m.o.length=M.v.toNat*M.D:=by
  have:((M.v.toNat:Nat):Int)=M.v:=by omega
  rw[←this,←Int.natCast_mul] at eO
  exact Int.ofNat.inj eO
 rw[e,Nat.mul_div_cancel _ (by omega)]
 omega
theorem nextZ_range {r:Rq} (K:MdOk r.M) (l:List Int) (n:Nat):0≤nextZ r l n∧nextZ r l n<r.M.v:=by
 have hl:=scoreL_length K l
 have hv:=K.fit.v0
 unfold nextZ
 split
 ·have:=maxZ_range (xs:=scoreL r.M l) (by omega)
  omega
 ·have:=chooseZ_range (xs:=scoreL r.M l) (k:=r.q.T) (h:=heatZ r.q.H) (u:=bitsZ r.q.sd n) (by omega)
  omega
theorem run_joined {M:Md} {ps ts:List Int} (h1:∀ j,j<ps.length→0≤ps.getD j 0∧ps.getD j 0<M.v) (h2:∀ t∈ts,0≤t∧t<M.v) (hn:ps.length+ts.length≤24):runB M (ps++ts) (ps.length+ts.length)=true:=by
 unfold runB
 rw[Bool.and_eq_true,decide_eq_true_eq,List.all_eq_true]
 refine⟨hn,fun k hk=>?_⟩
 have hk':=List.mem_range.1 hk
 unfold tokB
 have key:0≤(ps++ts).getD k 0∧(ps++ts).getD k 0<M.v:=by
  by_cases hlt:k<ps.length
  ·have e:(ps++ts).getD k 0=ps.getD k 0:=by simp[List.getD,List.getElem?_append_left hlt]
   rw[e]
   exact h1 k hlt
  ·have e:(ps++ts).getD k 0=ts.getD (k - ps.length) 0:=by simp[List.getD,List.getElem?_append_right (Nat.le_of_not_lt hlt)]
   rw[e]
   have h3:k - ps.length<ts.length:=by omega
   have e2:ts.getD (k - ps.length) 0=ts[k - ps.length]:=by simp[h3]
   rw[e2]
   exact h2 _ (List.getElem_mem h3)
 rw[decide_eq_true key.1,decide_eq_true key.2];rfl
theorem tokGo_len {nx:List Int→Int} {S:Int}:∀ (k:Nat) (ts:List Int),ts.length≤(tokGo nx S k ts).length∧(tokGo nx S k ts).length≤ts.length+k
 | 0,ts=>⟨Nat.le_refl _,Nat.le_refl _⟩
 | k+1,ts=>by
  unfold tokGo
  split
  ·simp
  ·have:=tokGo_len (nx:=nx) (S:=S) k (ts++[nx ts])
   simp at this
   omega
def Rq.draws (r:Rq):Prop:=r.q.k=1∨((r.q.k == 1)=false∧isN r.q.H=false∧(Lit.int .u64 r.q.sd).wf=true)
theorem asknext_call (r:Rq) (Y U D Ya:Nat→Nat→SL) (ps:List Int) (K:MdOk r.M) (w:World) (h:RqAt w r Y U D Ya ps) (ta:Option Addr) (tn tc:Nat) (ts:List Int) (ht:Reads .i64 w ta tn ts) (te:ta=none→tc=0) (hp:0<r.q.n) (hB:runB r.M (ps++ts) (r.q.n+tn)=true) (hk:r.draws) :
  Calls Tryz.prog 45 #[r.w,.slice ta tn tc] w fun e w'=>e=.returned (.tuple #[.int .i64 (nextZ r (ps++ts) tn),.int .i64 0])∧Below w.heap.size w w':=by
 rcases hk with h1 | ⟨h1,h2,h3⟩
 ·have:=next_greedy r Y U D Ya ps K w h ta tn tc ts ht te hp hB (by simp[h1])
  unfold nextZ
  rw[if_pos h1]
  exact this
 ·have:=next_sample r Y U D Ya ps K w h ta tn tc ts ht te hp hB h1 h2 h3
  unfold nextZ
  rw[if_neg (by simpa using h1)]
  exact this
def lenOf:Value→Nat
 | .slice _ n _=>n
 | _=>0
def ints (ts:List Int):List Value:=ts.map (.int .i64)
theorem ints_at (ts:List Int) (j:Nat) (h:j<ts.length):(ints ts)[j]? = some (.int .i64 (ts.getD j 0)):=by
 unfold ints
 simp[List.getD,h]
theorem in_app {v:Int} {ts:List Int} {T:Int} (h:∀ t∈ts,0≤t∧t<v) (hT:0≤T∧T<v):∀ t∈ts++[T],0≤t∧t<v:=by
 intro t ht
 rcases List.mem_append.1 ht with h1 | h1
 ·exact h t h1
 ·simp at h1
  subst h1
  exact hT
theorem append_ints {w wr w1:World} {B:Nat} {e:TypeId} {ts:List Int} {v v':Value} {Z:Int} {o:Obj} (hB:B≤wr.heap.size) (hb:Below B w wr)
  (hown:wr.ownsRow B e 1 v ts.length (ints ts)) (hown':w1.ownsRow B e 1 v' (ts.length+1) (ints ts++[.int .i64 Z])) (hg:(wr.alloc o).grownBy w1 v.ownBlock) :
  Below B w w1∧w1.ownsRow B e 1 v' (ts++[Z]).length (ints (ts++[Z])) :=
 ⟨(hb.alloc hB o).grown hg (by have:=(Below.refl B wr).alloc hB o;have:=this.size;omega) (fun g h=>(hown.lt g h).1),by
  rw[List.length_append]
  unfold ints at *
  rw[List.map_append]
  exact hown'⟩
theorem own_len {w:World} {B:Nat} {e:TypeId} {v:Value} {n:Nat} {cs:List Value} (h:w.ownsRow B e 1 v n cs):lenOf v=n:=by
 rcases h.2 with⟨rfl,rfl⟩ | ⟨g,cap,cur,rfl,_⟩
 ·rfl
 ·rfl
theorem tokens_call (r:Rq) (Y U D Ya:Nat→Nat→SL) (ps:List Int) (K:MdOk r.M) (w:World) (h:RqAt w r Y U D Ya ps) (hp:0<r.q.n) (hps:∀ j,j<ps.length→0≤ps.getD j 0∧ps.getD j 0<r.M.v) (hk:r.draws) (hv:r.M.v≤1000000) (hL:1≤r.q.L∧(r.q.n:Int)+r.q.L≤24) :
  Calls Tryz.prog 21 #[r.w] w fun e w'=>(∃ a c,e=.returned (.tuple #[.slice a (tokensZ r ps).length c,.int .i64 0])∧Reads .i64 w' a (tokensZ r ps).length (tokensZ r ps)∧w'.ownsRow w.heap.size 3 1 (.slice a (tokensZ r ps).length c) (tokensZ r ps).length (ints (tokensZ r ps)))∧Below w.heap.size w w':=by
 have hb:=below_new (Below.refl w.heap.size w) (.cells r.cs 55)
 have q0:=Blk.new 55 w r.cs
 have hpl:ps.length=r.q.n:=h.q.t.len
 obtain⟨i0,hi,hz0,hz1,hz2⟩:=info_parts info3
 have hsz:(w.alloc (.cells r.cs 55)).heap.size=w.heap.size+1:=show (w.heap.push _).size=_ by simp
 obtain⟨L,eL⟩:∃ L:Nat,r.q.L.toNat=L:=⟨_,rfl⟩
 have hL':r.q.L=L:=by omega
 have HZ:Hid (∀ ts:List Int,ts.length<L→(∀ t∈ts,0≤t∧t<r.M.v)→runB r.M (ps++ts) (r.q.n+ts.length)=true):=show ∀ ts:List Int,_ from fun ts h1 h2=>by
  rw[←hpl]
  exact run_joined hps h2 (by omega)
 have HN:Hid (∀ ts,0≤nxZ r ps ts∧nxZ r ps ts<r.M.v):=show ∀ ts,_ from fun ts=>nextZ_range K _ _
 have ks:Hid (∀ W,Below (w.heap.size+1) (w.alloc (.cells r.cs 55)) W→∀ ta tc (ts:List Int),ts.length<L→(∀ t∈ts,0≤t∧t<r.M.v)→Reads .i64 W ta ts.length ts→(ta=none→tc=0)→Calls Tryz.prog 45 #[r.w,.slice ta ts.length tc] W fun e w'=>e=.returned (.tuple #[.int .i64 (nxZ r ps ts),.int .i64 0])∧Below W.heap.size W w'):=show ∀ W,_ from fun W hW ta tc ts h1 h2 h3 h4=>asknext_call r Y U D Ya ps K W (h.below (by rw[←hsz] at hW;exact below_then hb hW)) ta ts.length tc ts h3 h4 hp (HZ.out ts h1 h2) hk
 have HT:Hid (tokensZ r ps=tokGo (nxZ r ps) r.q.S L []):=show _=_ from by unfold tokensZ;rw[eL]
 obtain⟨R,eR⟩:∃ R,tokensZ r ps=R:=⟨_,rfl⟩
 rw[eR] at HT ⊢
 obtain⟨nx,en⟩:∃ nx,nxZ r ps=nx:=⟨_,rfl⟩
 rw[en] at ks HT HN
 obtain⟨W0,eW⟩:∃ W0,w.alloc (.cells r.cs 55)=W0:=⟨_,rfl⟩
 rw[eW] at hb q0 ks hsz
 rw[←hsz] at ks
 have EW:=hidden_ eW
 clear eW eR h hps hk HZ en
 go_enter Tryz.func21,Tryz.ntmps21
 go_upto_region 1 with fail
 rw[EW.out]
 clear EW
 go_wp2
 go_loopw [4] (fun v wr=>∃ ts:List Int,Below W0.heap.size W0 wr∧wr.ownsRow W0.heap.size 3 1 v ts.length (ints ts)∧ts.length≤L∧(∀ t∈ts,0≤t∧t<r.M.v)∧tokGo nx r.q.S (L - ts.length) ts=R∧lenOf v=ts.length) (fun v _=>L - lenOf v)
 case atStart=>exact⟨[],Below.refl _ _,World.ownsRow_nil _ _ _ _,Nat.zero_le _,by simp,HT.out.symm,rfl⟩
 case round =>
  obtain⟨ts,hbr,ho,hl,hr,ht,hv'⟩:=hrel
  have WF:Hid (∀ z∈ts,(Lit.int .i64 z).wf=true):=show ∀ z∈ts,_ from fun z hz=>WalkArith.wf_i64 ⟨by have:=hr z hz;omega,by have:=hr z hz;omega⟩
  obtain⟨a,c,ev,rd⟩:=own_reads (k:=.i64) (zs:=ts) ho rfl WF.out (fun j hj=>ints_at ts j hj)
  subst ev
  have te:=own_none ho
  have qb:=q0.kept hbr
  have c17:wr.cell? ⟨w.heap.size,17,none⟩=some (.int .i64 r.q.L):=qb.cell 17 rfl
  have c18:wr.cell? ⟨w.heap.size,18,none⟩=some (.int .i64 r.q.S):=qb.cell 18 rfl
  have hos:=hbr.size
  rw[hL'] at c17
  by_cases hlt:ts.length<L
  ·have kn:∀ W,Below W0.heap.size W0 W→W.ownsRow W0.heap.size 3 1 (.slice a ts.length c) ts.length (ints ts)→_:=fun W hW hO=>ks.out W hW a c ts hlt hr (own_reads_at hO rfl WF.out (fun j hj=>ints_at ts j hj)) te
   have hT:=HN.out ts
   have ht':(if nx ts=r.q.S then ts++[nx ts] else tokGo nx r.q.S (L - (ts.length+1)) (ts++[nx ts]))=R:=by
    rw[←ht,show L - ts.length=(L - (ts.length+1))+1 by omega]
    rfl
   have HR:=hidden_ ht'
   have TT:=hidden_ ht
   obtain⟨T,eT⟩:∃ T,nx ts=T:=⟨_,rfl⟩
   rw[eT] at kn HR hT
   have hin:=hidden_ (in_app hr hT)
   clear ht ht' eT ks
   go_upto_region 3 with fail
   refine wp_region_tab0 (by kernel_rfl) rfl (fun W=>Below W0.heap.size W0 W∧Blk 55 W w.heap.size r.cs∧W.ownsRow W0.heap.size 3 1 (.slice a ts.length c) ts.length (ints ts)) [.eq r.w,.eq (.slice a ts.length c),.eq (.tuple #[.int .i64 T,.int .i64 0]),.eq (.tuple #[.int .i64 T,.int .i64 0]),.eq (.int .i64 T),.eq (.int .i64 0),.eq (.int .i64 T),.eq (.int .i64 0)] ⟨hbr,qb,ho⟩ ⟨?l0,?_,?c2,?_,?_,?_,?_,?_,trivial⟩ ?fin
   case l0 =>
    rintro b u - ⟨hb1,qb1,ho1⟩ ⟨h1,-⟩ K hK
    exact ask_load rfl h1 qb1 Tryz.underlying55 rfl rfl (hK _ _ (Below.refl _ _) ⟨hb1,qb1,ho1⟩ rfl)
   case c2 =>
    rintro b u - ⟨hb1,qb1,ho1⟩ ⟨h1,h2,-⟩ K hK
    replace h1:=show b.tmps.getD 14 undef=r.w from h1
    replace h2:=show b.tmps.getD 15 undef=.slice a ts.length c from h2
    dsimp only
    go_wp2_with (go_at_call 45;refine (kn _ hb1 ho1).mono ?_;rintro e W1 ⟨rfl,h⟩;exact hK _ _ h ⟨below_then hb1 h,qb1.kept h,own_below ho1 h⟩ rfl)
   case fin =>
    rintro g u ⟨hb1,qb1,ho3⟩ ⟨-,-,-,-,-,-,f6,f7,-⟩
    replace f6:=show g 5=.int .i64 T from f6
    replace f7:=show g 6=.int .i64 0 from f7
    simp only[List.filterMap,List.foldl,f6,f7,Act.put,List.setIfInBounds_toArray,List.set_cons_succ,List.set_cons_zero]
    have c18:u.cell? ⟨w.heap.size,18,none⟩=some (.int .i64 r.q.S):=qb1.cell 18 rfl
    have hos1:=hb1.size
    clear f6 f7 kn qb1
    go_upto_region 7 with (at_builtin;refine wpList_append_own _ rfl (.tmp 22) (.tmp 24) 25 rfl W0.heap.size 3 i0 (.int .i64 0) 1 8 Tryz.underlying25 hi hz0 hz1 hz2 rfl (by decide) _ _ _ rfl (ho3.alloc _) ⟨_,0,none⟩ 1 1 [.int .i64 T] rfl rfl (one_new _ _ _) (one_oneCell _ _) (by unfold maxLen;omega) (by omega) (by simp;omega) ?_;intro v5 w5 ho5 hg5 _)
    have hos2:W0.heap.size≤u.heap.size:=hb1.size
    have st:=append_ints hos2 hb1 ho3 ho5 hg5
    have c18:w5.cell? ⟨w.heap.size,18,none⟩=some (.int .i64 r.q.S):=(q0.kept st.1).cell 18 rfl
    have HS:=hidden_ st
    have HRo:=HR.out
    clear st HR ho3 ho5 hg5 hb1
    by_cases hst:(T == r.q.S)=true
    ·rw[if_pos (eq_of_beq hst)] at HRo
     go_wp2
     subst HRo
     have wf2:∀ z∈ts++[T],(Lit.int .i64 z).wf=true:=fun z hz=>WalkArith.wf_i64 ⟨by have:=hin.out z hz;omega,by have:=hin.out z hz;omega⟩
     obtain⟨a',c',ev,rd'⟩:=own_reads (k:=.i64) (zs:=ts++[T]) HS.out.2 rfl wf2 (fun j hj=>ints_at _ j hj)
     have HS':=HS.out
     rw[ev] at HS'
     subst ev
     go_ret2
     exact⟨⟨_,_,rfl,rd',World.ownsRow.mono HS'.2 (by omega)⟩,below_then hb HS'.1⟩
    ·replace hst:(T == r.q.S)=false:=by simpa using hst
     rw[if_neg (by simpa using hst)] at HRo
     go_wp2
     go_roundw
     case rel=>exact⟨ts++[T],HS.out.1,HS.out.2,by simp;omega,hin.out,by rw[←HRo,List.length_append];rfl,own_len HS.out.2⟩
     case measure=>rw[own_len HS.out.2,hv',List.length_append];simp only[List.length_singleton];omega
   all_goals
    rintro b u - hS hv K hK
    first
     | (obtain⟨h1,h2,-⟩:=hv;replace h1:=show b.tmps.getD _ undef=_ from h1;replace h2:=show b.tmps.getD _ undef=_ from h2)
     | (obtain⟨h1,-⟩:=hv;replace h1:=show b.tmps.getD _ undef=_ from h1)
     | skip
    dsimp only
    go_simp
    exact hK _ _ (Below.refl _ _) hS rfl
  ·obtain rfl:ts.length=L:=by omega
   rw[Nat.sub_self] at ht
   have E:ts=R:=ht
   subst E
   go_wp2
   go_ret2
   exact⟨⟨_,_,rfl,rd,World.ownsRow.mono ho (by omega)⟩,below_then hb hbr⟩
end
section
def embZ (r:Rq) (ps:List Int):List Int:=(List.range r.M.D).map (meanF (outF r.M (tokF ps)) r.q.n)
theorem embZ_len (r:Rq) (ps:List Int):(embZ r ps).length=r.M.D:=by simp[embZ]
theorem embZ_wf (r:Rq) (ps:List Int):∀ z∈embZ r ps,(Lit.int .i64 z).wf=true:=fun z hz=>by
 obtain⟨y,_,rfl⟩:=List.mem_map.1 hz
 exact wf_clampZ _
theorem vector_call (r:Rq) (Y U D Ya:Nat→Nat→SL) (ps:List Int) (K:MdOk r.M) (w:World) (h:RqAt w r Y U D Ya ps) (hp:0<r.q.n) (hB:runB r.M ps r.q.n=true) :
  Calls Tryz.prog 19 #[r.w] w fun e w'=>(∃ a c,e=.returned (.tuple #[.slice a r.M.D c,.int .i64 0])∧Reads .i64 w' a r.M.D (embZ r ps))∧Below w.heap.size w w':=by
 have hb:=below_new (Below.refl w.heap.size w) (.cells r.cs 55)
 have q0:=Blk.new 55 w r.cs
 have hE:=K.none_bad
 obtain⟨i0,hi,hz0,hz1,hz2⟩:=info_parts info3
 have hD:r.M.D*8≤281474976710656:=by have:=K.fit.d1;omega
 have kr:=fun (W:World) (hb:Below w.heap.size w W)=>mrun_yes r.M r.E r.L r.N r.O Y U D r.La Ya hE W (h.m.below hb) (h.a.below hb) r.q.a r.q.n r.q.c ps (h.q.t.below hb) hB
 have ev:Even r.q.n (outF r.M (tokF ps)):=⟨hp,fun i _=>by rw[outF_length,outF_length]⟩
 have km:Hid (∀ (W:World) a c A C,Grid W a r.q.n A C (outF r.M (tokF ps))→Calls Tryz.prog 42 #[.slice a r.q.n c] W fun e w'=>(∃ a c,e=.returned (.tuple #[.slice a r.M.D c,.int .i64 0])∧Reads .i64 w' a r.M.D (embZ r ps))∧Below W.heap.size W w'):=show ∀ (W:World) a c A C,_ from fun W a c A C hg=>by
  have:=mean_even a r.q.n c A C (outF r.M (tokF ps)) W hg ev (by rw[outF_length];exact hD)
  rw[outF_length] at this
  exact this
 have HW:Hid (∀ z∈embZ r ps,(Lit.int .i64 z).wf=true):=embZ_wf r ps
 have HL:Hid ((embZ r ps).length=r.M.D):=embZ_len r ps
 obtain⟨V,eV⟩:∃ V,embZ r ps=V:=⟨_,rfl⟩
 rw[eV] at km HW HL ⊢
 obtain⟨d,ed⟩:∃ d,r.M.D=d:=⟨_,rfl⟩
 rw[ed] at km HL hD ⊢
 obtain⟨W0,eW⟩:∃ W0,w.alloc (.cells r.cs 55)=W0:=⟨_,rfl⟩
 rw[eW] at hb q0
 have EW:=hidden_ eW
 clear eW eV ed h ev hB
 go_enter Tryz.func19,Tryz.ntmps19
 go_upto_region 1 with fail
 rw[EW.out]
 clear EW
 refine wp_region_tab0 (by kernel_rfl) rfl (fun W=>Below w.heap.size w W∧Blk 55 W w.heap.size r.cs) [.eq (.pointer (some ⟨w.heap.size,0,none⟩)),.eq r.mw,.eq (.pointer (some ⟨w.heap.size,12,none⟩)),.eq r.aw,.eq (.pointer (some ⟨w.heap.size,15,none⟩)),.eq (.pointer (some ⟨w.heap.size,16,none⟩)),.eq (.slice r.q.a r.q.n r.q.c),.run r.q.n (outF r.M (tokF ps)),.run r.q.n (outF r.M (tokF ps)),.any,.slice r.q.n (outF r.M (tokF ps)),.eq (.int .i64 0),.any,.slice r.q.n (outF r.M (tokF ps)),.eq (.int .i64 0)] ⟨hb,q0⟩ ⟨?_,?_,?_,?_,?_,?_,?_,?c7,?p8,?x9,?x10,?x11,?p12,?p13,?_,trivial⟩ ?fin
 case c7 =>
  rintro b u - ⟨hb,qb⟩ ⟨h1,h2,h3,-⟩ K hK
  replace h1:=show b.tmps.getD 13 undef=r.mw from h1
  replace h2:=show b.tmps.getD 15 undef=r.aw from h2
  replace h3:=show b.tmps.getD 18 undef=.slice r.q.a r.q.n r.q.c from h3
  dsimp only
  go_wp2_with (go_at_call 41;refine (kr _ hb).mono ?_;rintro e W1 ⟨⟨u1,k1,u2,k2,A1,A2,C1,C2,rfl,g1,g2,-⟩,h⟩;exact hK _ _ h ⟨below_then hb h,qb.kept h⟩ ⟨_,_,_,_,_,rfl,g2⟩)
 case p8 =>
  rintro b u - hS ⟨h1,-⟩ K hK
  exact hK _ _ (Below.refl _ _) hS h1
 case p12 =>
  rintro b u - hS ⟨h1,-⟩ K hK
  exact hK _ _ (Below.refl _ _) hS trivial
 case p13 =>
  rintro b u - hS ⟨h1,-⟩ K hK
  exact hK _ _ (Below.refl _ _) hS h1
 case x9 =>
  rintro b u - hS ⟨h1,-⟩ K hK
  obtain⟨x,a,c,A,C,h1,g1⟩:=h1
  dsimp only
  go_simp
  exact hK _ _ (Below.refl _ _) hS trivial
 case x10 =>
  rintro b u - hS ⟨h1,-⟩ K hK
  obtain⟨x,a,c,A,C,h1,g1⟩:=h1
  dsimp only
  go_simp
  exact hK _ _ (Below.refl _ _) hS ⟨_,_,_,_,rfl,g1⟩
 case x11 =>
  rintro b u - hS ⟨h1,-⟩ K hK
  obtain⟨x,a,c,A,C,h1,g1⟩:=h1
  dsimp only
  go_simp
  exact hK _ _ (Below.refl _ _) hS rfl
 case fin =>
  rintro g u ⟨hb,qb⟩ ⟨-,-,-,-,-,-,-,-,-,-,-,-,-,f7,f8,-⟩
  replace f8:=show g 6=.int .i64 0 from f8
  obtain⟨oa,oc,oA,oC,f7,hg⟩:=f7
  replace f7:=show g 5=.slice oa r.q.n oc from f7
  simp only[List.filterMap,List.foldl,f7,f8,Act.put,List.setIfInBounds_toArray,List.set_cons_succ,List.set_cons_zero]
  clear f7 f8 kr qb q0
  have km:=km.out u oa oc oA oC hg
  clear hg
  go_upto_region 7 with (go_at_call 42;refine km.mono ?_;rintro e W1 ⟨⟨ma,mc,rfl,hr⟩,hb1⟩;replace hb1:=below_then hb hb1;have HR:=hidden_ hr;clear km hr)
  have hos:=hb1.size
  go_wp2_with (at_make;(refine wpList_make_full _ rfl (.tmp 35) (.tmp 35) 25 rfl w.heap.size 3 i0 (.int .i64 0) 1 Tryz.underlying25 hi hz0 hz1 .i64 .i64 _ _ d rfl rfl rfl rfl (by rw[hz2];omega) (by unfold maxLen;omega) hb1.size ?_;intro w1 hown hgrow))
  have hbel:Below w.heap.size w w1:=hb1.grown hgrow hos (fun k h=>by cases h)
  have rd1:=HR.out.below (show Below W1.heap.size W1 w1 from (Below.refl _ _).grown hgrow (Nat.le_refl _) (fun k h=>by cases h))
  obtain⟨g2,eg⟩:∃ g2,W1.heap.size=g2:=⟨_,rfl⟩
  have hlt1:∀ x,ma=some x→0<d→x.block<g2:=fun x hx h0=>by subst hx;rw[←eg];exact World.block_lt_of_cell? _ _ (HR.out.cell x rfl 0 h0)
  rw[eg] at hown hos ⊢
  clear eg hgrow hb1 HR
  go_wp2
  go_loopw [39] (fun i wr=>∃ k:Nat,k≤d∧i=.int .i64 k∧Below w.heap.size w wr∧Reads .i64 wr ma d V∧∃ cs,wr.ownsRow w.heap.size 3 1 (.slice (some ⟨g2,0,none⟩) d d) d cs∧∀ j,j<k→cs[j]? = some (.int .i64 (V.getD j 0))) (fun i _=>d - (intOf i).toNat)
  case atStart=>exact⟨0,Nat.zero_le _,rfl,hbel,rd1,_,hown,fun j hj=>by omega⟩
  case round =>
   clear hown hbel rd1
   obtain⟨k,hk,rfl,hbr,rd,cs,ho,hcs⟩:=hrel
   by_cases hlt:k<d
   ·obtain⟨x,rfl⟩:=rd.some_ (by omega)
    have cx:=rd.cell x rfl k hlt
    have hlen:=own_length ho
    have froz:=ho.frozenAt k
    have cc:=ho.cellAt k (by omega)
    have cc':wr.cell? ⟨g2,k,none⟩=some (cs.getD k (.int .i64 0)):=by rw[cc];simp[List.getD,hlen,hlt]
    have xb:=hlt1 x rfl (by omega)
    have R':Hid (Below w.heap.size w (wr.setCell ⟨g2,k,none⟩ (.int .i64 (V.getD k 0)))∧Reads .i64 (wr.setCell ⟨g2,k,none⟩ (.int .i64 (V.getD k 0))) (some x) d V∧∃ ds',(wr.setCell ⟨g2,k,none⟩ (.int .i64 (V.getD k 0))).ownsRow w.heap.size 3 1 (.slice (some ⟨g2,0,none⟩) d d) d ds'∧∀ i,i<k+1→ds'[i]? = some (.int .i64 (V.getD i 0))) :=
     ⟨hbr.setCell hos _,rd.setOff (show g2≠x.block by omega) _,_,(ho.stored k _).1,set_step (F:=fun i=>Value.int .i64 (V.getD i 0)) hlen hlt rfl hcs⟩
    obtain⟨Z,eZ⟩:∃ Z,V.getD k 0=Z:=⟨_,rfl⟩
    rw[eZ] at cx R'
    obtain⟨Z2,eZ2⟩:∃ Z2,cs.getD k (.int .i64 0)=Z2:=⟨_,rfl⟩
    rw[eZ2] at cc'
    clear eZ eZ2 cc hcs ho hlen hbr hi hz0 hz1 hz2
    go_wp2
    go_roundw
    case rel=>exact⟨k+1,by omega,by go_num,R'.out⟩
    case measure=>simp[intOf];omega
   ·obtain rfl:k=d:=by omega
    have fin:=own_reads_at (k:=.i64) (zs:=V) ho HL.out HW.out hcs
    clear hcs
    go_wp2
    go_ret2
    exact⟨⟨_,_,rfl,fin⟩,hbr⟩
 all_goals
  rintro b u - ⟨hb,qb⟩ hv K hK
  obtain⟨c0,c1,c2,c3,c4,c5,c6,c7,c8,c9,c10,c11,c12,c13,c14,c15,c16,c17,c18,c19,c20,c21,c22,c23⟩:=qb.rq
  first
   | (obtain⟨h1,h2,h3,-⟩:=hv;replace h1:=show b.tmps.getD _ undef=_ from h1;replace h2:=show b.tmps.getD _ undef=_ from h2;replace h3:=show b.tmps.getD _ undef=_ from h3)
   | (obtain⟨h1,h2,-⟩:=hv;replace h1:=show b.tmps.getD _ undef=_ from h1;replace h2:=show b.tmps.getD _ undef=_ from h2)
   | (obtain⟨h1,-⟩:=hv;replace h1:=show b.tmps.getD _ undef=_ from h1)
   | skip
  dsimp only
  go_simp
  exact hK _ _ (Below.refl _ _) ⟨hb,qb⟩ rfl
end
section
theorem wpList_build_of {P:Program} {Q:Exit→Act→World→Prop} {ops:Array Oper} {rest:List Oper} {o:Oper} {a:Act} {w:World} (hg:o.guard=none) (t:TypeId) (parts:Array (Nat × Operand)) (ho:o.op=.build t parts) (cs:Array Value)
  (hf:P.built t (parts.map fun (i,x)=>(i,a.eval x)).toList=some cs) (h:wpList P ops Q rest (a.put o.dst (.agg cs)) w):wpList P ops Q (o :: rest) a w :=
 wpList_build hg t parts ho (by rw[hf];rfl) (by rw[hf];exact h)
theorem setRow_blk {t:TypeId} {w:World} {g:Nat} {old cs:Array Value} (h:Blk t w g old):Blk t (w.setRow g cs) g cs:=setRow_heap w g old cs t _ h
theorem own_capN {w:World} {B:Nat} {e:TypeId} {a:Option Addr} {n m c:Nat} {cs:List Value} (h:w.ownsRow B e 1 (.slice a n c) m cs):n≤c:=by
 rcases h.2 with⟨hv,-⟩ | ⟨g,cap,cur,hv,_,hg,hn,hm,hs,ht⟩
 ·cases hv;exact Nat.le_refl _
 ·cases hv;omega
theorem own_fromN {w:World} {B:Nat} {e:TypeId} {a:Option Addr} {n m c:Nat} {cs:List Value} (h:w.ownsRow B e 1 (.slice a n c) m cs) {x:Addr} (hx:a=some x):B≤x.block:=by
 subst hx
 rcases h.2 with⟨hv,-⟩ | ⟨g,cap,cur,hv,hB,hg,hn,hm,hs,ht⟩
 ·cases hv
 ·cases hv;exact hB
structure ReqOk (r:Rq) (ps:List Int):Prop where
 K:MdOk r.M
 p0:0<ps.length
 pv:∀ j,j<ps.length→0≤ps.getD j 0∧ps.getD j 0<r.M.v
 emb:r.q.k=4→r.q.n≤24
 kd:r.q.k=1∨r.q.k=2∨r.q.k=3∨r.q.k=4
 len:r.q.k≠4→1≤r.q.L∧(r.q.n:Int)+r.q.L≤24
 smp:r.q.k=2→isN r.q.H=false
theorem req_ok {r:Rq} {ps:List Int} (h:reqE r ps=0):ReqOk r ps:=by
 unfold reqE at h
 by_cases hE:badE r.M=0
 case neg=>rw[if_neg hE] at h;exact absurd h hE
 rw[if_pos hE] at h
 unfold checkZ at h
 by_cases hc:(r.cf.ok && (promptZ r.cf ps && kindZ r.cf r.q))=true
 case neg=>rw[if_neg hc] at h;exact absurd h (by decide)
 rw[if_pos hc] at h
 by_cases hl:longZ r.q=true
 case pos=>rw[if_pos hl] at h;exact absurd h (by decide)
 simp only[Bool.and_eq_true] at hc
 obtain⟨-,hp,hk⟩:=hc
 unfold promptZ at hp
 simp only[Bool.and_eq_true,decide_eq_true_eq,List.all_eq_true] at hp
 unfold kindZ choiceZ endZ triesZ at hk
 unfold longZ at hl
 refine⟨badE_ok hE,hp.1,fun j hj=>?_,fun h4=>?_,?_,fun h4=>?_,fun h2=>?_⟩
 ·have e:ps.getD j 0=ps[j]:=by simp[List.getD,hj]
  rw[e]
  exact hp.2 _ (List.getElem_mem hj)
 ·rw[if_pos h4] at hl
  simp only[decide_eq_true_eq] at hl
  omega
 ·by_cases h4:r.q.k=4
  ·exact .inr (.inr (.inr h4))
  ·rw[if_neg h4] at hk
   by_cases h3:r.q.k=3
   ·exact .inr (.inr (.inl h3))
   ·rw[if_neg h3] at hk
    by_cases h2:r.q.k=2
    ·exact .inr (.inl h2)
    ·rw[if_neg h2] at hk
     by_cases h1:r.q.k=1
     ·exact .inl h1
     ·rw[if_neg h1] at hk
      exact absurd hk (by decide)
 ·rw[if_neg h4] at hl hk
  simp only[decide_eq_true_eq] at hl
  refine⟨?_,by omega⟩
  split at hk
  ·simp only[Bool.and_eq_true,decide_eq_true_eq] at hk
   exact hk.2.1
  ·split at hk
   ·simp only[Bool.and_eq_true,decide_eq_true_eq] at hk
    exact hk.2.1
   ·split at hk
    ·simp only[Bool.and_eq_true,decide_eq_true_eq] at hk
     exact hk.1
    ·exact absurd hk (by decide)
 ·rw[if_neg (by omega),if_neg (by omega),if_pos h2] at hk
  simp only[Bool.and_eq_true,Bool.not_eq_true'] at hk
  exact hk.1.2.2
def ansT (r:Rq) (ps tb:List Int):List Int:=if reqE r ps=0 then (if r.q.k=4 then [] else if r.q.k=3 then tb else tokensZ r ps) else []
def ansV (r:Rq) (ps:List Int):List Int:=if reqE r ps=0 then (if r.q.k=4 then embZ r ps else []) else []
def Ent.numc (B n:Nat) (zs:List Int):Ent:=.of (fun q u=>∃ a c,q=.slice a n c∧Reads .i64 u a n zs∧n≤c∧∀ x:Addr,a=some x→B≤x.block) (fun _ _ _ hb ⟨a,c,e,h,g⟩=>⟨a,c,e,h.below hb,g⟩)
def Ent.rowc (B n:Nat) (zs:List Int):Ent:=.of (fun q u=>∃ a c,q=.tuple #[.slice a n c,.int .i64 0]∧Reads .i64 u a n zs∧n≤c∧∀ x:Addr,a=some x→B≤x.block) (fun _ _ _ hb ⟨a,c,e,h,g⟩=>⟨a,c,e,h.below hb,g⟩)
def AnsAt (B:Nat) (T V:List Int) (E:Int) (e:Ending) (w:World):Prop:=∃ ta tc va vc,e=.returned (.tuple #[.slice ta T.length tc,.slice va V.length vc,.int .i64 E])∧Reads .i64 w ta T.length T∧Reads .i64 w va V.length V∧T.length≤tc∧∀ x:Addr,ta=some x→B≤x.block
theorem answer_call (r:Rq) (Y U D Ya:Nat→Nat→SL) (ps tb:List Int) (w:World) (h:RqAt w r Y U D Ya ps) (kb:reqE r ps=0→r.q.k=3→∀ W,Below w.heap.size w W→Calls Tryz.prog 20 #[r.w] W fun e w'=>(∃ a c,e=.returned (.tuple #[.slice a tb.length c,.int .i64 0])∧Reads .i64 w' a tb.length tb∧tb.length≤c∧∀ x:Addr,a=some x→w.heap.size≤x.block)∧Below W.heap.size W w') :
  Calls Tryz.prog 9 #[r.mw,r.aw,r.q.w] w fun e w'=>AnsAt w.heap.size (ansT r ps tb) (ansV r ps) (reqE r ps) e w'∧Below w.heap.size w w':=by
 have kc:=fun W (hb:Below w.heap.size w W)=>rqcheck_call r Y U D Ya ps W (h.below hb)
 have kv:Hid (reqE r ps=0→r.q.k=4→∀ W,Below w.heap.size w W→Calls Tryz.prog 19 #[r.w] W fun e w'=>(∃ a c,e=.returned (.tuple #[.slice a (ansV r ps).length c,.int .i64 0])∧Reads .i64 w' a (ansV r ps).length (ansV r ps))∧Below W.heap.size W w'):=show reqE r ps=0→_ from fun h0 h4 W hb=>by
  have o:=req_ok h0
  have e:ansV r ps=embZ r ps:=by unfold ansV;rw[if_pos h0,if_pos h4]
  have hn:ps.length=r.q.n:=h.q.t.len
  have hB:=run_joined (M:=r.M) (ps:=ps) (ts:=[]) o.pv (by simp) (by have:=o.emb h4;simp;omega)
  rw[List.append_nil,List.length_nil,Nat.add_zero,hn] at hB
  rw[e,embZ_len]
  exact vector_call r Y U D Ya ps o.K W (h.below hb) (by have:=o.p0;omega) hB
 have kt:Hid (reqE r ps=0→r.q.k≠4→r.q.k≠3→∀ W,Below w.heap.size w W→Calls Tryz.prog 21 #[r.w] W fun e w'=>(∃ a c,e=.returned (.tuple #[.slice a (ansT r ps tb).length c,.int .i64 0])∧Reads .i64 w' a (ansT r ps tb).length (ansT r ps tb)∧(ansT r ps tb).length≤c∧∀ x:Addr,a=some x→w.heap.size≤x.block)∧Below W.heap.size W w'):=show reqE r ps=0→_ from fun h0 h4 h3 W hb=>by
  have o:=req_ok h0
  have e:ansT r ps tb=tokensZ r ps:=by unfold ansT;rw[if_pos h0,if_neg h4,if_neg h3]
  have hn:ps.length=r.q.n:=h.q.t.len
  have hk:r.draws:=by
   rcases o.kd with k | k | k | k
   ·exact .inl k
   ·exact .inr ⟨by simp[k],o.smp k,h.q.ws⟩
   ·exact absurd k h3
   ·exact absurd k h4
  have hv:=o.K.fit.v1
  rw[e]
  refine (tokens_call r Y U D Ya ps o.K W (h.below hb) (by have:=o.p0;omega) o.pv hk (by omega) (o.len h4)).mono fun e w' hh=>⟨?_,hh.2⟩
  obtain⟨a,c,he,hr,ho⟩:=hh.1
  exact⟨a,c,he,hr,own_capN ho,fun x hx=>Nat.le_trans hb.size (own_fromN ho hx)⟩
 have kb':Hid (reqE r ps=0→r.q.k=3→∀ W,Below w.heap.size w W→Calls Tryz.prog 20 #[r.w] W fun e w'=>(∃ a c,e=.returned (.tuple #[.slice a (ansT r ps tb).length c,.int .i64 0])∧Reads .i64 w' a (ansT r ps tb).length (ansT r ps tb)∧(ansT r ps tb).length≤c∧∀ x:Addr,a=some x→w.heap.size≤x.block)∧Below W.heap.size W w'):=show reqE r ps=0→_ from fun h0 h3 W hb=>by
  have e:ansT r ps tb=tb:=by unfold ansT;rw[if_pos h0,if_neg (by omega),if_pos h3]
  rw[e]
  exact kb h0 h3 W hb
 have nT:Hid (reqE r ps≠0∨r.q.k=4→ansT r ps tb=[]):=show _→_ from fun hh=>by
  unfold ansT
  rcases hh with hh | hh
  ·rw[if_neg hh]
  ·rw[if_pos hh,ite_self]
 have nV:Hid (reqE r ps≠0∨r.q.k≠4→ansV r ps=[]):=show _→_ from fun hh=>by
  unfold ansV
  rcases hh with hh | hh
  ·rw[if_neg hh]
  ·rw[if_neg hh,ite_self]
 obtain⟨R1,e1⟩:∃ R1,ansT r ps tb=R1:=⟨_,rfl⟩
 obtain⟨R2,e2⟩:∃ R2,ansV r ps=R2:=⟨_,rfl⟩
 obtain⟨EE,e3⟩:∃ EE,reqE r ps=EE:=⟨_,rfl⟩
 rw[e1] at kt kb' nT ⊢
 rw[e2] at kv nV ⊢
 rw[e3] at kc kv kt kb' nT nV ⊢
 clear e1 e2 e3 kb h
 have q1:Blk 34 (((w.alloc (.cells r.mc 34)).alloc (.cells r.ac 37)).alloc (.cells r.q.cs 28)) w.heap.size r.mc:=(Blk.new 34 w r.mc).kept (below_new (below_new (Below.refl _ _) _) _)
 have q2:Blk 37 (((w.alloc (.cells r.mc 34)).alloc (.cells r.ac 37)).alloc (.cells r.q.cs 28)) (w.heap.size+1) r.ac:=(Blk.new_at 37 (w.alloc _) _ _ (by simp)).kept (below_new (Below.refl _ _) _)
 have q3:Blk 28 (((w.alloc (.cells r.mc 34)).alloc (.cells r.ac 37)).alloc (.cells r.q.cs 28)) (w.heap.size+1+1) r.q.cs:=Blk.new_at 28 ((w.alloc _).alloc _) _ _ (by simp)
 have hb:Below w.heap.size w (((w.alloc (.cells r.mc 34)).alloc (.cells r.ac 37)).alloc (.cells r.q.cs 28)):=below_new (below_new (below_new (Below.refl _ _) _) _) _
 have hs:(((w.alloc (.cells r.mc 34)).alloc (.cells r.ac 37)).alloc (.cells r.q.cs 28)).heap.size=w.heap.size+3:=show (((w.heap.push _).push _).push _).size=_ by simp
 obtain⟨W0,eW⟩:∃ W0,((w.alloc (.cells r.mc 34)).alloc (.cells r.ac 37)).alloc (.cells r.q.cs 28)=W0:=⟨_,rfl⟩
 rw[eW] at hb q1 q2 q3 hs
 have EW:=hidden_ eW
 clear eW
 go_enter Tryz.func9,Tryz.ntmps9
 go_upto_region 1 with fail
 rw[EW.out]
 clear EW
 refine wp_region_list ?_
 refine wpList_load_row rfl 34 (.tmp 3) rfl w.heap.size rfl 34 r.mc (0,0) _ q1 Tryz.underlying34 rfl rfl ?_
 refine wpList_load_row rfl 37 (.tmp 4) rfl (w.heap.size+1) rfl 37 r.ac (0,0) _ q2 Tryz.underlying37 rfl rfl ?_
 refine wpList_load_row rfl 28 (.tmp 5) rfl (w.heap.size+1+1) rfl 28 r.q.cs (0,0) _ q3 Tryz.underlying28 rfl rfl ?_
 refine wpList_build_of rfl 55 _ rfl r.cs (by kernel_rfl) ?_
 refine wpList_plain rfl fun K hK=>?_
 dsimp only
 go_simp
 refine hK _ _ ?_
 obtain⟨old,eo⟩:∃ old:Array Value,old=#[.int .i64 0,.int .i64 0,.int .i64 0,.int .i64 0,.int .i64 0,.int .i64 0,.int .i64 0,.int .i64 0,.slice none 0 0,.slice none 0 0,.slice none 0 0,.slice none 0 0,.int .i64 0,.int .i64 0,.slice none 0 0,.int .i64 0,.slice none 0 0,.int .i64 0,.int .i64 0,.int .u64 0,.int .i64 0,.float .f64 0,.int .i64 0,.int .i64 0]:=⟨_,rfl⟩
 rw[←eo]
 refine wpList_store_row rfl 55 (.tmp 9) (.tmp 20) rfl (w.heap.size+3) r.cs rfl rfl 55 old (Blk.new_at 55 W0 old _ hs.symm) rfl (by rw[eo];rfl) (by kernel_rfl) ?_
 have q0:=setRow_blk (cs:=r.cs) (Blk.new_at 55 W0 old _ hs.symm)
 have hb1:=below_setRow (below_new hb (.cells old 55)) (show w.heap.size≤w.heap.size+3 by omega) r.cs
 have q5:Blk 28 ((W0.alloc (.cells old 55)).setRow (w.heap.size+3) r.cs) (w.heap.size+1+1) r.q.cs:=(setRow_other _ _ _ _ (by omega)).trans (q3.kept (below_new (Below.refl _ _) _))
 obtain⟨W1,eW1⟩:∃ W1,(W0.alloc (.cells old 55)).setRow (w.heap.size+3) r.cs=W1:=⟨_,rfl⟩
 rw[eW1] at q0 hb1 q5
 rw[eW1]
 clear eW1 hb q1 q2 q3
 go_upto_region 2 with fail
 refine wp_region_tab0 (by kernel_rfl) rfl (fun W=>Below w.heap.size w W∧Blk 55 W (w.heap.size+3) r.cs∧Blk 28 W (w.heap.size+1+1) r.q.cs) [.eq r.w,.eq (.int .i64 EE),.eq (.int .i64 EE)] ⟨hb1,q0,q5⟩ ⟨?l0,?c0,?p0,trivial⟩ ?f0
 case l0 =>
  rintro b u - ⟨hb,qb,qq⟩ ⟨h1,-⟩ K hK
  exact ask_load rfl h1 qb Tryz.underlying55 rfl rfl (hK _ _ (Below.refl _ _) ⟨hb,qb,qq⟩ rfl)
 case c0 =>
  rintro b u - ⟨hb,qb,qq⟩ ⟨h1,-⟩ K hK
  replace h1:=show b.tmps.getD 21 undef=r.w from h1
  dsimp only
  go_wp2_with (go_at_call 18;refine (kc _ hb).mono ?_;rintro e W1 ⟨rfl,h⟩;exact hK _ _ h ⟨below_then hb h,qb.kept h,qq.kept h⟩ rfl)
 case p0 =>
  rintro b u - hS ⟨h1,-⟩ K hK
  exact hK _ _ (Below.refl _ _) hS h1
 rintro g u ⟨hb,qb,qq⟩ ⟨-,-,f1,-⟩
 replace f1:=show g 10=.int .i64 EE from f1
 simp only[List.filterMap,List.foldl,f1,Act.put,List.setIfInBounds_toArray,List.set_cons_succ,List.set_cons_zero]
 clear f1 kc q0 q5 hb1
 by_cases n1:EE=0
 case neg =>
  have t1:(EE == 0)=false:=by simpa using n1
  obtain rfl:=nT.out (.inl n1)
  obtain rfl:=nV.out (.inl n1)
  go_wp2
  go_ret3
  exact⟨⟨none,0,none,0,rfl,Reads.nil _ _,Reads.nil _ _,Nat.le_refl _,fun x hx=>by cases hx⟩,hb⟩
 subst n1
 have c0:u.cell? ⟨w.heap.size+1+1,0,none⟩=some (.int .i64 r.q.k):=qq.cell 0 rfl
 by_cases n4:r.q.k=4
 ·rw[n4] at c0
  obtain rfl:=nT.out (.inr n4)
  go_upto_region 7 with fail
  refine wp_region_tab0 (by kernel_rfl) rfl (fun W=>Below w.heap.size w W∧Blk 55 W (w.heap.size+3) r.cs∧Blk 28 W (w.heap.size+1+1) r.q.cs) [.eq r.w,.row R2.length R2,.row R2.length R2,.nums R2.length R2,.eq (.int .i64 0),.nums R2.length R2,.eq (.int .i64 0)] ⟨hb,qb,qq⟩ ⟨?lv,?cv,?mv,?xv,?yv,?nv,?ov,trivial⟩ ?fv
  case lv =>
   rintro b u - ⟨hb,qb,qq⟩ ⟨h1,-⟩ K hK
   exact ask_load rfl h1 qb Tryz.underlying55 rfl rfl (hK _ _ (Below.refl _ _) ⟨hb,qb,qq⟩ rfl)
  case cv =>
   rintro b u - ⟨hb,qb,qq⟩ ⟨h1,-⟩ K hK
   replace h1:=show b.tmps.getD 31 undef=r.w from h1
   dsimp only
   go_wp2_with (go_at_call 19;refine (kv.out rfl n4 _ hb).mono ?_;rintro e W1 ⟨⟨a',c',rfl,r'⟩,h⟩;exact hK _ _ h ⟨below_then hb h,qb.kept h,qq.kept h⟩ ⟨_,_,rfl,r'⟩)
  case mv =>
   rintro b u - hS ⟨h1,-⟩ K hK
   exact hK _ _ (Below.refl _ _) hS h1
  case nv =>
   rintro b u - hS ⟨h1,-⟩ K hK
   exact hK _ _ (Below.refl _ _) hS h1
  case ov =>
   rintro b u - hS ⟨h1,-⟩ K hK
   exact hK _ _ (Below.refl _ _) hS h1
  case xv =>
   rintro b u - hS ⟨h1,-⟩ K hK
   obtain⟨a,c,h1,g1⟩:=h1
   dsimp only
   go_simp
   exact hK _ _ (Below.refl _ _) hS ⟨_,_,rfl,g1⟩
  case yv =>
   rintro b u - hS ⟨h1,-⟩ K hK
   obtain⟨a,c,h1,g1⟩:=h1
   dsimp only
   go_simp
   exact hK _ _ (Below.refl _ _) hS rfl
  case fv =>
   rintro g u ⟨hb,qb,qq⟩ ⟨-,-,-,-,-,f6,f7,-⟩
   obtain⟨ra,rc,f6,rd⟩:=f6
   replace f6:=show g 11=.slice ra _ rc from f6
   replace f7:=show g 12=.int .i64 0 from f7
   simp only[List.filterMap,List.foldl,f6,f7,Act.put,List.setIfInBounds_toArray,List.set_cons_succ,List.set_cons_zero]
   clear f6 f7
   go_wp2
   go_ret3
   exact⟨⟨none,0,ra,rc,rfl,Reads.nil _ _,rd,Nat.le_refl _,fun x hx=>by cases hx⟩,hb⟩
 obtain rfl:=nV.out (.inr n4)
 have t4:(r.q.k == 4)=false:=by simpa using n4
 by_cases n3:r.q.k=3
 ·rw[n3] at c0
  clear t4
  go_upto_region 10 with fail
  refine wp_region_tab0 (by kernel_rfl) rfl (fun W=>Below w.heap.size w W∧Blk 55 W (w.heap.size+3) r.cs∧Blk 28 W (w.heap.size+1+1) r.q.cs) [.eq r.w,.rowc w.heap.size R1.length R1,.rowc w.heap.size R1.length R1,.numc w.heap.size R1.length R1,.eq (.int .i64 0),.numc w.heap.size R1.length R1,.eq (.int .i64 0)] ⟨hb,qb,qq⟩ ⟨?lb,?cb,?mb,?xb,?yb,?nb,?ob,trivial⟩ ?fb
  case lb =>
   rintro b u - ⟨hb,qb,qq⟩ ⟨h1,-⟩ K hK
   exact ask_load rfl h1 qb Tryz.underlying55 rfl rfl (hK _ _ (Below.refl _ _) ⟨hb,qb,qq⟩ rfl)
  case cb =>
   rintro b u - ⟨hb,qb,qq⟩ ⟨h1,-⟩ K hK
   replace h1:=show b.tmps.getD 40 undef=r.w from h1
   dsimp only
   go_wp2_with (go_at_call 20;refine (kb'.out rfl n3 _ hb).mono ?_;rintro e W1 ⟨⟨a',c',rfl,r'⟩,h⟩;exact hK _ _ h ⟨below_then hb h,qb.kept h,qq.kept h⟩ ⟨_,_,rfl,r'⟩)
  case mb =>
   rintro b u - hS ⟨h1,-⟩ K hK
   exact hK _ _ (Below.refl _ _) hS h1
  case nb =>
   rintro b u - hS ⟨h1,-⟩ K hK
   exact hK _ _ (Below.refl _ _) hS h1
  case ob =>
   rintro b u - hS ⟨h1,-⟩ K hK
   exact hK _ _ (Below.refl _ _) hS h1
  case xb =>
   rintro b u - hS ⟨h1,-⟩ K hK
   obtain⟨a,c,h1,g1⟩:=h1
   dsimp only
   go_simp
   exact hK _ _ (Below.refl _ _) hS ⟨_,_,rfl,g1⟩
  case yb =>
   rintro b u - hS ⟨h1,-⟩ K hK
   obtain⟨a,c,h1,g1⟩:=h1
   dsimp only
   go_simp
   exact hK _ _ (Below.refl _ _) hS rfl
  case fb =>
   rintro g u ⟨hb,qb,qq⟩ ⟨-,-,-,-,-,f6,f7,-⟩
   obtain⟨ra,rc,f6,rd⟩:=f6
   replace f6:=show g 13=.slice ra _ rc from f6
   replace f7:=show g 14=.int .i64 0 from f7
   simp only[List.filterMap,List.foldl,f6,f7,Act.put,List.setIfInBounds_toArray,List.set_cons_succ,List.set_cons_zero]
   clear f6 f7
   go_wp2
   go_ret3
   exact⟨⟨ra,rc,none,0,rfl,rd.1,Reads.nil _ _,rd.2⟩,hb⟩
 have t3:(r.q.k == 3)=false:=by simpa using n3
 go_upto_region 12 with fail
 refine wp_region_tab0 (by kernel_rfl) rfl (fun W=>Below w.heap.size w W∧Blk 55 W (w.heap.size+3) r.cs∧Blk 28 W (w.heap.size+1+1) r.q.cs) [.eq r.w,.rowc w.heap.size R1.length R1,.rowc w.heap.size R1.length R1,.numc w.heap.size R1.length R1,.eq (.int .i64 0),.numc w.heap.size R1.length R1,.eq (.int .i64 0)] ⟨hb,qb,qq⟩ ⟨?lt,?ct,?mt,?xt,?yt,?nt,?ot,trivial⟩ ?ft
 case lt =>
  rintro b u - ⟨hb,qb,qq⟩ ⟨h1,-⟩ K hK
  exact ask_load rfl h1 qb Tryz.underlying55 rfl rfl (hK _ _ (Below.refl _ _) ⟨hb,qb,qq⟩ rfl)
 case ct =>
  rintro b u - ⟨hb,qb,qq⟩ ⟨h1,-⟩ K hK
  replace h1:=show b.tmps.getD 47 undef=r.w from h1
  dsimp only
  go_wp2_with (go_at_call 21;refine (kt.out rfl n4 n3 _ hb).mono ?_;rintro e W1 ⟨⟨a',c',rfl,r'⟩,h⟩;exact hK _ _ h ⟨below_then hb h,qb.kept h,qq.kept h⟩ ⟨_,_,rfl,r'⟩)
 case mt =>
  rintro b u - hS ⟨h1,-⟩ K hK
  exact hK _ _ (Below.refl _ _) hS h1
 case nt =>
  rintro b u - hS ⟨h1,-⟩ K hK
  exact hK _ _ (Below.refl _ _) hS h1
 case ot =>
  rintro b u - hS ⟨h1,-⟩ K hK
  exact hK _ _ (Below.refl _ _) hS h1
 case xt =>
  rintro b u - hS ⟨h1,-⟩ K hK
  obtain⟨a,c,h1,g1⟩:=h1
  dsimp only
  go_simp
  exact hK _ _ (Below.refl _ _) hS ⟨_,_,rfl,g1⟩
 case yt =>
  rintro b u - hS ⟨h1,-⟩ K hK
  obtain⟨a,c,h1,g1⟩:=h1
  dsimp only
  go_simp
  exact hK _ _ (Below.refl _ _) hS rfl
 case ft =>
  rintro g u ⟨hb,qb,qq⟩ ⟨-,-,-,-,-,f6,f7,-⟩
  obtain⟨ra,rc,f6,rd⟩:=f6
  replace f6:=show g 15=.slice ra _ rc from f6
  replace f7:=show g 16=.int .i64 0 from f7
  simp only[List.filterMap,List.foldl,f6,f7,Act.put,List.setIfInBounds_toArray,List.set_cons_succ,List.set_cons_zero]
  clear f6 f7
  go_wp2
  go_ret3
  exact⟨⟨ra,rc,none,0,rfl,rd.1,Reads.nil _ _,rd.2⟩,hb⟩
end
section
structure Kg where
 c:Cq
 s:Int
 k:Int
 q:Aq
abbrev Kg.cs (k:Kg):Array Value:=#[.int .i64 k.c.d,.int .i64 k.c.h,.int .i64 k.c.l,.int .i64 k.c.v,.int .i64 k.c.u,.int .i64 k.c.x,.int .i64 k.c.t,.int .i64 k.c.n,.int .u64 k.s,.int .i64 k.k,.int .i64 k.q.k,.slice k.q.a k.q.n k.q.c,.int .i64 k.q.L,.int .i64 k.q.S,.int .u64 k.q.sd,.int .i64 k.q.T,.float .f64 k.q.H,.int .i64 k.q.B,.int .i64 k.q.E]
abbrev Kg.w (k:Kg):Value:=.agg k.cs
def Kg.M (k:Kg):Md:=made k.c.d k.c.h k.c.l k.c.v k.c.u k.c.x k.c.t k.c.n k.s k.k
abbrev Kg.rq (k:Kg) (t:MT) (La:SL):Rq:=⟨k.M,t.E,t.L,t.N,t.O,La,k.q⟩
theorem Blk.kg {w:World} {b:Nat} {k:Kg} (h:Blk 30 w b k.cs):w.cell? ⟨b,0,none⟩=some (.int .i64 k.c.d)∧w.cell? ⟨b,1,none⟩=some (.int .i64 k.c.h)∧w.cell? ⟨b,2,none⟩=some (.int .i64 k.c.l)∧w.cell? ⟨b,3,none⟩=some (.int .i64 k.c.v)∧w.cell? ⟨b,4,none⟩=some (.int .i64 k.c.u)∧w.cell? ⟨b,5,none⟩=some (.int .i64 k.c.x)∧w.cell? ⟨b,6,none⟩=some (.int .i64 k.c.t)∧w.cell? ⟨b,7,none⟩=some (.int .i64 k.c.n)∧w.cell? ⟨b,8,none⟩=some (.int .u64 k.s)∧w.cell? ⟨b,9,none⟩=some (.int .i64 k.k) :=
 ⟨h.cell 0 rfl,h.cell 1 rfl,h.cell 2 rfl,h.cell 3 rfl,h.cell 4 rfl,h.cell 5 rfl,h.cell 6 rfl,h.cell 7 rfl,h.cell 8 rfl,h.cell 9 rfl⟩
abbrev Kg.mc (k:Kg) (t:MT):Array Value:=#[.int .i64 k.c.d,.int .i64 k.c.h,.int .i64 k.c.l,.int .i64 k.c.v,.int .i64 k.c.u,.int .i64 k.c.x,.int .i64 k.c.t,.int .i64 k.c.n,.slice t.E.a t.E.n t.E.c,.slice t.L.a t.L.n t.L.c,.slice t.N.a t.N.n t.N.c,.slice t.O.a t.O.n t.O.c]
abbrev Kg.ac (k:Kg) (L:SL):Array Value:=#[.int .i64 (adR k.k),.int .i64 (adS k.k k.s),.slice L.a L.n L.c]
structure MadeS (w:World) (k:Kg) (t:MT) (g5:Nat) (u:World):Prop where
 b:Below w.heap.size w u
 q0:Blk 30 u w.heap.size k.cs
 q5:Blk 34 u g5 (k.mc t)
 q1:∃ o:Array Value,o.size=12∧Blk 34 u (w.heap.size+1) o
 q2:∃ o:Array Value,o.size=3∧Blk 37 u (w.heap.size+1+1) o
 m:NewM (w.heap.size+3) u t.E t.L t.N t.O t.Y t.U t.D k.M.m
 h5:w.heap.size+3≤g5
 l5:g5<u.heap.size
theorem MadeS.below {w:World} {k:Kg} {t:MT} {g5:Nat} {u u':World} (h:MadeS w k t g5 u) (hb:Below u.heap.size u u'):MadeS w k t g5 u' :=
 ⟨below_then h.b hb,h.q0.kept hb,h.q5.kept hb,h.q1.imp fun _ x=>⟨x.1,x.2.kept hb⟩,h.q2.imp fun _ x=>⟨x.1,x.2.kept hb⟩,h.m.below hb,h.h5,Nat.lt_of_lt_of_le h.l5 hb.size⟩
theorem from_setRow {B g:Nat} {u:World} {cs:Array Value} (hg:g<B):From B u (u.setRow g cs):=fun p v hp hle=>(cell_setRow_other u g cs p (by omega)).trans hp
theorem but_setRow {t:TypeId} {g:Nat} {u:World} {old cs:Array Value} (h:Blk t u g old) (hs:cs.size=old.size):But g u (u.setRow g cs):=⟨rfl,rfl,rfl,by simp,fun b _ hb=>setRow_other u g b cs hb,fun cs' t' fr e=>⟨cs,setRow_heap u g cs' cs t' fr e,by have:=(show u.heap[g]? = _ from h).symm.trans e;cases this;exact hs⟩⟩
theorem blk_setRow {t:TypeId} {u:World} {b g:Nat} {cs ds:Array Value} (h:Blk t u b ds) (hb:b≠g):Blk t (u.setRow g cs) b ds:=(setRow_other u g b cs hb).trans h
theorem MadeS.set1 {w:World} {k:Kg} {t:MT} {g5:Nat} {u:World} (h:MadeS w k t g5 u) {cs:Array Value} (hc:cs.size=12):MadeS w k t g5 (u.setRow (w.heap.size+1) cs):=by
 obtain⟨o,ho,hq⟩:=h.q1
 have:=h.h5
 have hl:=h.l5
 exact⟨below_setRow h.b (by omega) cs,blk_setRow h.q0 (by omega),blk_setRow h.q5 (by omega),⟨cs,hc,setRow_blk hq⟩,h.q2.imp fun _ x=>⟨x.1,blk_setRow x.2 (by omega)⟩,fun w'' hc=>h.m w'' fun p v hp hle=>hc p v (from_setRow (by omega) p v hp hle) hle,h.h5,by simpa using h.l5⟩
theorem MadeS.set2 {w:World} {k:Kg} {t:MT} {g5:Nat} {u:World} (h:MadeS w k t g5 u) {cs:Array Value} (hc:cs.size=3):MadeS w k t g5 (u.setRow (w.heap.size+1+1) cs):=by
 obtain⟨o,ho,hq⟩:=h.q2
 have:=h.h5
 have hl:=h.l5
 exact⟨below_setRow h.b (by omega) cs,blk_setRow h.q0 (by omega),blk_setRow h.q5 (by omega),h.q1.imp fun _ x=>⟨x.1,blk_setRow x.2 (by omega)⟩,⟨cs,hc,setRow_blk hq⟩,fun w'' hc=>h.m w'' fun p v hp hle=>hc p v (from_setRow (by omega) p v hp hle) hle,h.h5,by simpa using h.l5⟩
def G2 (B s:Nat) (u:World) (b:Nat):Prop:=s=0∧b=B+1∨s=1∧b=B+1+1
theorem Chg.at2 {B b:Nat} {k:Option Nat} {u u':World} (h:Chg (G2 B) k u u') (hl:b<u.heap.size) (h0:b=B+1→k=some 0) (h1:b=B+1+1→k=some 1):u'.heap[b]? = u.heap[b]? :=
 h.block b hl fun s hs=>by
  rcases hs with⟨rfl,e⟩ | ⟨rfl,e⟩
  ·exact h0 e
  ·exact h1 e
theorem Chg.from2 {B:Nat} {k:Option Nat} {u u':World} (h:Chg (G2 B) k u u'):From (B+3) u u':=fun p v hp hle=>by
 rw[←hp]
 exact World.cell?_of_block (h.at2 (World.block_lt_of_cell? _ _ hp) (fun e=>by omega) (fun e=>by omega))
def eAd (B:Nat) (k:Kg):EntR (G2 B):=⟨fun v u=>∃ ta:SL × (Nat→Nat→SL),v=.agg (k.ac ta.1)∧NewA (B+3) u ta.1 ta.2 k.M.a,none,fun _ _ _ h ⟨ta,e,x⟩=>⟨ta,e,x.from_ h.from2⟩⟩
def eS1 (B:Nat) (k:Kg) (t:MT):EntR (G2 B):=⟨fun _ u=>Blk 34 u (B+1) (k.mc t),some 0,fun _ _ _ h x=>(h.at2 (Blk.lt x) (fun _=>rfl) (fun e=>by omega)).trans x⟩
def eS2 (B:Nat) (k:Kg):EntR (G2 B):=⟨fun _ u=>∃ ta:SL × (Nat→Nat→SL),Blk 37 u (B+1+1) (k.ac ta.1)∧NewA (B+3) u ta.1 ta.2 k.M.a,some 1,fun _ _ _ h ⟨ta,x,y⟩=>⟨ta,(h.at2 (Blk.lt x) (fun e=>by omega) (fun _=>rfl)).trans x,y.from_ h.from2⟩⟩
theorem Made_yes (k:Kg) (ok:okB k.c.d k.c.h k.c.l k.c.v k.c.u k.c.x k.c.t k.c.n=true) (hs:(Lit.int .u64 k.s).wf=true) (w:World) :
  Calls Tryz.prog 8 #[k.w] w fun e w'=>(∃ (t:MT) (ta:SL × (Nat→Nat→SL)),e=.returned (.tuple #[(k.rq t ta.1).mw,(k.rq t ta.1).aw,.bool true])∧NewM w.heap.size w' t.E t.L t.N t.O t.Y t.U t.D k.M.m∧NewA w.heap.size w' ta.1 ta.2 k.M.a)∧Below w.heap.size w w':=by
 have km:=model_yes k.c.d k.c.h k.c.l k.c.v k.c.u k.c.x k.c.t k.c.n k.s ok
 have ka:=adapt_call k.k k.c.d k.c.h k.c.l k.c.v k.c.u k.c.x k.c.t k.c.n k.s ok hs
 obtain⟨m0,em⟩:∃ m0:Array Value,m0=#[.int .i64 0,.int .i64 0,.int .i64 0,.int .i64 0,.int .i64 0,.int .i64 0,.int .i64 0,.int .i64 0,.slice none 0 0,.slice none 0 0,.slice none 0 0,.slice none 0 0]:=⟨_,rfl⟩
 obtain⟨a0,ea⟩:∃ a0:Array Value,a0=#[.int .i64 0,.int .i64 0,.slice none 0 0]:=⟨_,rfl⟩
 have q0:Blk 30 (((w.alloc (.cells k.cs 30)).alloc (.cells m0 34)).alloc (.cells a0 37)) w.heap.size k.cs:=(Blk.new 30 w k.cs).kept (below_new (below_new (Below.refl _ _) _) _)
 have q1:Blk 34 (((w.alloc (.cells k.cs 30)).alloc (.cells m0 34)).alloc (.cells a0 37)) (w.heap.size+1) m0:=(Blk.new_at 34 (w.alloc _) _ _ (by simp)).kept (below_new (Below.refl _ _) _)
 have q2:Blk 37 (((w.alloc (.cells k.cs 30)).alloc (.cells m0 34)).alloc (.cells a0 37)) (w.heap.size+1+1) a0:=Blk.new_at 37 ((w.alloc _).alloc _) _ _ (by simp)
 have hb:Below w.heap.size w (((w.alloc (.cells k.cs 30)).alloc (.cells m0 34)).alloc (.cells a0 37)):=below_new (below_new (below_new (Below.refl _ _) _) _) _
 have hz:(((w.alloc (.cells k.cs 30)).alloc (.cells m0 34)).alloc (.cells a0 37)).heap.size=w.heap.size+3:=show (((w.heap.push _).push _).push _).size=_ by simp
 rw[em,ea] at hb q0 q1 q2 hz
 obtain⟨W0,eW⟩:∃ W0,((w.alloc (.cells k.cs 30)).alloc (.cells #[.int .i64 0,.int .i64 0,.int .i64 0,.int .i64 0,.int .i64 0,.int .i64 0,.int .i64 0,.int .i64 0,.slice none 0 0,.slice none 0 0,.slice none 0 0,.slice none 0 0] 34)).alloc (.cells #[.int .i64 0,.int .i64 0,.slice none 0 0] 37)=W0:=⟨_,rfl⟩
 rw[eW] at hb q0 q1 q2 hz
 rw[←em] at q1
 rw[←ea] at q2
 have EW:=hidden_ eW
 clear eW
 go_enter Tryz.func8,Tryz.ntmps8
 go_upto_region 1 with fail
 rw[EW.out]
 clear EW
 have C0:=q0.kg
 obtain⟨c0,c1,c2,c3,c4,c5,c6,c7,c8,c9⟩:=C0
 go_upto_region 4 with (go_at_call 16;refine (km _).mono ?_;rintro e W1 ⟨t,rfl,hm,hb1⟩;clear c0 c1 c2 c3 c4 c5 c6 c7 c8 c9 km)
 have hx:=below_new (Below.refl W1.heap.size W1) (.cells (k.mc t) 34)
 have b0:=(below_then hb hb1).trans (hx.mono (below_then hb hb1).size)
 replace q0:=(q0.kept hb1).kept hx
 replace q1:=(q1.kept hb1).kept hx
 replace q2:=(q2.kept hb1).kept hx
 have q5:=Blk.new 34 W1 (k.mc t)
 replace hm:=hm.below hx
 have hl:w.heap.size+3≤W1.heap.size:=by have:=hb1.size;omega
 have hl5:W1.heap.size<(W1.alloc (.cells (k.mc t) 34)).heap.size:=q5.lt
 obtain⟨g5,e5⟩:∃ g5,W1.heap.size=g5:=⟨_,rfl⟩
 obtain⟨W2,e2⟩:∃ W2,W1.alloc (.cells (k.mc t) 34)=W2:=⟨_,rfl⟩
 rw[hz] at hm
 rw[e2] at b0 q0 q1 q2 q5 hm hl5
 rw[e5] at q5 hl hl5
 rw[e5,show W1.alloc (.cells _ 34)=W2 from e2]
 have S0:=MadeS.mk (t:=t) (g5:=g5) b0 q0 q5 ⟨m0,by rw[em];rfl,q1⟩ ⟨a0,by rw[ea];rfl,q2⟩ hm hl hl5
 clear b0 q0 q1 q2 q5 hm hl hl5 hb hb1 hx e2 e5
 refine wp_region_tabS (G:=G2 w.heap.size) (by kernel_rfl) (by kernel_rfl) rfl (MadeS w k t g5) [.eq (.agg (k.mc t)),.eq (.pointer (some ⟨w.heap.size,9,none⟩)),.eq (.int .i64 k.k),.eq (.pointer (some ⟨w.heap.size,0,none⟩)),.eq (.agg k.c.cs),.eq (.pointer (some ⟨w.heap.size,8,none⟩)),.eq (.int .u64 k.s),eAd w.heap.size k,eS1 w.heap.size k t,eS2 w.heap.size k,.eq (.bool true)] (stores_ne _ rfl) (S0.below (below_drew (Below.refl _ _) ⟨1,rfl⟩)) ⟨?l0,?_,?_,?_,?_,?_,?_,?c7,?s8,?s9,?_,trivial⟩ ?fin
 case l0 =>
  rintro b u - hS ⟨h1,-⟩ K hK
  exact ask_load rfl h1 hS.q5 Tryz.underlying34 rfl rfl (hK _ _ (Below.refl _ _) hS rfl)
 case c7 =>
  rintro b u - hS ⟨h1,h2,h3,-⟩ K hK
  replace h1:=show b.tmps.getD 21 undef=.int .i64 k.k from h1
  replace h2:=show b.tmps.getD 23 undef=.agg k.c.cs from h2
  replace h3:=show b.tmps.getD 25 undef=.int .u64 k.s from h3
  have hle:w.heap.size+3≤u.heap.size:=by have:=hS.h5;have:=hS.l5;omega
  dsimp only
  go_wp2_with (go_at_call 17;refine (ka _).mono ?_;rintro e W3 ⟨ta,rfl,ha,h⟩;exact hK _ _ h (hS.below h) ⟨ta,rfl,ha.le hle⟩)
 case s8 =>
  rintro b u - hS ⟨h1,h2,-⟩ K hK
  obtain⟨o,ho,hq⟩:=hS.q1
  exact wp_store_row 34 (.tmp 2) (.tmp 19) rfl _ (k.mc t) h1 h2 34 o hq rfl ho (by kernel_rfl) (hK undef _ ⟨_,.inl ⟨rfl,rfl⟩,but_setRow hq ho.symm⟩ (hS.set1 rfl) (setRow_blk hq))
 case s9 =>
  rintro b u - hS ⟨h1,h2,-⟩ K hK
  obtain⟨o,ho,hq⟩:=hS.q2
  obtain⟨ta,h2,ha⟩:=h2
  exact wp_store_row 37 (.tmp 3) (.tmp 26) rfl _ (k.ac ta.1) h1 h2 37 o hq rfl ho (by kernel_rfl) (hK undef _ ⟨_,.inr ⟨rfl,rfl⟩,but_setRow hq ho.symm⟩ (hS.set2 rfl) ⟨ta,setRow_blk hq,ha.from_ (from_setRow (by omega))⟩)
 case fin =>
  rintro g u hS ⟨-,-,-,-,-,-,-,-,⟨_,f8,-⟩,⟨_,⟨ta,f9,fa⟩,-⟩,f10,-⟩
  replace f10:=show g 4=.bool true from f10
  replace f8:Blk 34 u (w.heap.size+1) (k.mc t):=f8
  simp only[List.filterMap,List.foldl,f10,Act.put,List.setIfInBounds_toArray,List.set_cons_succ,List.set_cons_zero]
  clear f10 ka
  go_wp2
  replace f9:Blk 37 u (w.heap.size+1+1) (k.ac ta.1):=f9
  have y0:=f8.cell 0 rfl
  have y1:=f8.cell 1 rfl
  have y2:=f8.cell 2 rfl
  have y3:=f8.cell 3 rfl
  have y4:=f8.cell 4 rfl
  have y5:=f8.cell 5 rfl
  have y6:=f8.cell 6 rfl
  have y7:=f8.cell 7 rfl
  have y8:=f8.cell 8 rfl
  have y9:=f8.cell 9 rfl
  have y10:=f8.cell 10 rfl
  have y11:=f8.cell 11 rfl
  have z0:=f9.cell 0 rfl
  have z1:=f9.cell 1 rfl
  have z2:=f9.cell 2 rfl
  refine bodyPost_ret (v:=.tuple #[.agg (k.mc t),.agg (k.ac ta.1),.bool true]) ?_ rfl ⟨⟨t,ta,rfl,hS.m.le (by omega),fa.le (by omega)⟩,hS.b⟩
  simp[results,Tryz.results8,go_sem,y0,y1,y2,y3,y4,y5,y6,y7,y8,y9,y10,y11,z0,z1,z2]
 all_goals
  rintro b u - hS hv K hK
  obtain⟨c0,c1,c2,c3,c4,c5,c6,c7,c8,c9⟩:=hS.q0.kg
  first
   | (obtain⟨h1,h2,-⟩:=hv;replace h1:=show b.tmps.getD _ undef=_ from h1;replace h2:=show b.tmps.getD _ undef=_ from h2)
   | (obtain⟨h1,-⟩:=hv;replace h1:=show b.tmps.getD _ undef=_ from h1)
   | skip
  try dsimp only
  go_simp
  exact hK _ _ (Below.refl _ _) hS rfl
theorem Made_no (k:Kg) (ok:okB k.c.d k.c.h k.c.l k.c.v k.c.u k.c.x k.c.t k.c.n=false) (w:World) :
  Calls Tryz.prog 8 #[k.w] w fun e w'=>(∃ t:MT,e=.returned (.tuple #[.agg #[.int .i64 0,.int .i64 0,.int .i64 0,.int .i64 0,.int .i64 0,.int .i64 0,.int .i64 0,.int .i64 0,.slice t.E.a t.E.n t.E.c,.slice t.L.a t.L.n t.L.c,.slice t.N.a t.N.n t.N.c,.slice t.O.a t.O.n t.O.c],.agg #[.int .i64 0,.int .i64 0,.slice none 0 0],.bool false]))∧Below w.heap.size w w':=by
 have km:=model_no k.c.d k.c.h k.c.l k.c.v k.c.u k.c.x k.c.t k.c.n k.s ok
 have q0:Blk 30 (((w.alloc (.cells k.cs 30)).alloc (.cells #[.int .i64 0,.int .i64 0,.int .i64 0,.int .i64 0,.int .i64 0,.int .i64 0,.int .i64 0,.int .i64 0,.slice none 0 0,.slice none 0 0,.slice none 0 0,.slice none 0 0] 34)).alloc (.cells #[.int .i64 0,.int .i64 0,.slice none 0 0] 37)) w.heap.size k.cs:=(Blk.new 30 w k.cs).kept (below_new (below_new (Below.refl _ _) _) _)
 have q1:Blk 34 (((w.alloc (.cells k.cs 30)).alloc (.cells #[.int .i64 0,.int .i64 0,.int .i64 0,.int .i64 0,.int .i64 0,.int .i64 0,.int .i64 0,.int .i64 0,.slice none 0 0,.slice none 0 0,.slice none 0 0,.slice none 0 0] 34)).alloc (.cells #[.int .i64 0,.int .i64 0,.slice none 0 0] 37)) (w.heap.size+1) _:=(Blk.new_at 34 (w.alloc _) _ _ (by simp)).kept (below_new (Below.refl _ _) _)
 have q2:Blk 37 (((w.alloc (.cells k.cs 30)).alloc (.cells #[.int .i64 0,.int .i64 0,.int .i64 0,.int .i64 0,.int .i64 0,.int .i64 0,.int .i64 0,.int .i64 0,.slice none 0 0,.slice none 0 0,.slice none 0 0,.slice none 0 0] 34)).alloc (.cells #[.int .i64 0,.int .i64 0,.slice none 0 0] 37)) (w.heap.size+1+1) _:=Blk.new_at 37 ((w.alloc _).alloc _) _ _ (by simp)
 have hb:Below w.heap.size w (((w.alloc (.cells k.cs 30)).alloc (.cells #[.int .i64 0,.int .i64 0,.int .i64 0,.int .i64 0,.int .i64 0,.int .i64 0,.int .i64 0,.int .i64 0,.slice none 0 0,.slice none 0 0,.slice none 0 0,.slice none 0 0] 34)).alloc (.cells #[.int .i64 0,.int .i64 0,.slice none 0 0] 37)):=below_new (below_new (below_new (Below.refl _ _) _) _) _
 obtain⟨W0,eW⟩:∃ W0,((w.alloc (.cells k.cs 30)).alloc (.cells #[.int .i64 0,.int .i64 0,.int .i64 0,.int .i64 0,.int .i64 0,.int .i64 0,.int .i64 0,.int .i64 0,.slice none 0 0,.slice none 0 0,.slice none 0 0,.slice none 0 0] 34)).alloc (.cells #[.int .i64 0,.int .i64 0,.slice none 0 0] 37)=W0:=⟨_,rfl⟩
 rw[eW] at hb q0 q1 q2
 have EW:=hidden_ eW
 clear eW
 go_enter Tryz.func8,Tryz.ntmps8
 go_upto_region 1 with fail
 rw[EW.out]
 clear EW
 have C0:=q0.kg
 obtain⟨c0,c1,c2,c3,c4,c5,c6,c7,c8,c9⟩:=C0
 go_upto_region 3 with (go_at_call 16;refine (km _).mono ?_;rintro e W1 ⟨t,rfl,hm,hb1⟩;clear c0 c1 c2 c3 c4 c5 c6 c7 c8 c9 km)
 obtain⟨mz,ez⟩:∃ mz:Array Value,mz=#[.int .i64 0,.int .i64 0,.int .i64 0,.int .i64 0,.int .i64 0,.int .i64 0,.int .i64 0,.int .i64 0,.slice t.E.a t.E.n t.E.c,.slice t.L.a t.L.n t.L.c,.slice t.N.a t.N.n t.N.c,.slice t.O.a t.O.n t.O.c]:=⟨_,rfl⟩
 rw[←ez]
 have hx:=below_new (Below.refl W1.heap.size W1) (.cells mz 34)
 have b0:=(below_then hb hb1).trans (hx.mono (below_then hb hb1).size)
 replace q1:=(q1.kept hb1).kept hx
 replace q2:=(q2.kept hb1).kept hx
 have q5:=Blk.new 34 W1 mz
 obtain⟨W2,e2⟩:∃ W2,W1.alloc (.cells mz 34)=W2:=⟨_,rfl⟩
 rw[e2] at b0 q1 q2 q5 ⊢
 refine wp_region_list ?_
 refine wpList_load_row rfl 34 (.tmp 5) rfl W1.heap.size rfl 34 mz (0,0) _ q5 Tryz.underlying34 rfl (by rw[ez];rfl) ?_
 refine wpList_build_of rfl 37 _ rfl #[.int .i64 0,.int .i64 0,.slice none 0 0] (by kernel_rfl) ?_
 refine wpList_store_row rfl 34 (.tmp 2) (.tmp 17) rfl (w.heap.size+1) mz rfl rfl 34 _ q1 (by rw[ez];rfl) (by rw[ez];rfl) (by rw[ez];kernel_rfl) ?_
 refine wpList_store_row rfl 37 (.tmp 3) (.tmp 18) rfl (w.heap.size+1+1) _ rfl rfl 37 _ (blk_setRow q2 (by omega)) rfl rfl (by kernel_rfl) ?_
 have y1:=blk_setRow (cs:=#[.int .i64 0,.int .i64 0,.slice none 0 0]) (setRow_blk (cs:=mz) q1) (show w.heap.size+1≠w.heap.size+1+1 by omega)
 have y2:=setRow_blk (cs:=#[.int .i64 0,.int .i64 0,.slice none 0 0]) (blk_setRow (cs:=mz) q2 (show w.heap.size+1+1≠w.heap.size+1 by omega))
 have b1:=below_setRow (below_setRow b0 (show w.heap.size≤w.heap.size+1 by omega) mz) (show w.heap.size≤w.heap.size+1+1 by omega) #[.int .i64 0,.int .i64 0,.slice none 0 0]
 obtain⟨W3,e3⟩:∃ W3,(W2.setRow (w.heap.size+1) mz).setRow (w.heap.size+1+1) #[.int .i64 0,.int .i64 0,.slice none 0 0]=W3:=⟨_,rfl⟩
 rw[e3] at y1 y2 b1 ⊢
 go_wp2
 clear e3 q5 b0 e2 hx
 subst ez
 have u0:=y1.cell 0 rfl
 have u1:=y1.cell 1 rfl
 have u2:=y1.cell 2 rfl
 have u3:=y1.cell 3 rfl
 have u4:=y1.cell 4 rfl
 have u5:=y1.cell 5 rfl
 have u6:=y1.cell 6 rfl
 have u7:=y1.cell 7 rfl
 have u8:=y1.cell 8 rfl
 have u9:=y1.cell 9 rfl
 have u10:=y1.cell 10 rfl
 have u11:=y1.cell 11 rfl
 have z0:=y2.cell 0 rfl
 have z1:=y2.cell 1 rfl
 have z2:=y2.cell 2 rfl
 refine bodyPost_ret (v:=.tuple #[.agg #[.int .i64 0,.int .i64 0,.int .i64 0,.int .i64 0,.int .i64 0,.int .i64 0,.int .i64 0,.int .i64 0,.slice t.E.a t.E.n t.E.c,.slice t.L.a t.L.n t.L.c,.slice t.N.a t.N.n t.N.c,.slice t.O.a t.O.n t.O.c],.agg #[.int .i64 0,.int .i64 0,.slice none 0 0],.bool false]) ?_ rfl ⟨⟨t,rfl⟩,b1⟩
 simp[results,Tryz.results8,go_sem,u0,u1,u2,u3,u4,u5,u6,u7,u8,u9,u10,u11,z0,z1,z2]
end
section
theorem kc30:Tryz.prog.cellsOf 30=19:=by kernel_rfl
theorem kc23:Tryz.prog.cellsOf 23=8:=by kernel_rfl
theorem kc24:Tryz.prog.cellsOf 24=1:=by kernel_rfl
theorem kc3:Tryz.prog.cellsOf 3=1:=by kernel_rfl
theorem kc28:Tryz.prog.cellsOf 28=9:=by kernel_rfl
structure KgAt (w:World) (k:Kg) (zs:List Int):Prop where
 ws:(Lit.int .u64 k.s).wf=true
 q:AkAt w k.q zs
theorem array19 {α:Type} {cs:Array α} (h:cs.size=19):∃ c0 c1 c2 c3 c4 c5 c6 c7 c8 c9 c10 c11 c12 c13 c14 c15 c16 c17 c18,cs=#[c0,c1,c2,c3,c4,c5,c6,c7,c8,c9,c10,c11,c12,c13,c14,c15,c16,c17,c18]:=by
 obtain⟨l⟩:=cs
 match l,h with
 | [c0,c1,c2,c3,c4,c5,c6,c7,c8,c9,c10,c11,c12,c13,c14,c15,c16,c17,c18],_=>exact⟨c0,c1,c2,c3,c4,c5,c6,c7,c8,c9,c10,c11,c12,c13,c14,c15,c16,c17,c18,rfl⟩
section
variable {H:Type} {enc:TypeId × Value→H} {W:World}
theorem open_kg {b0:Nat} {r:Reach} {v:Value} {dd:DataW H} {p:List MemPlace} (hv:Value.okWide Tryz.prog W r b0 30 v) (h:DataW.Trod enc Tryz.prog W 0 (fun _=>true) true 30 v dd p):∃ (k:Kg) (zs:List Int),v=k.w∧KgAt W k zs:=by
 obtain⟨cs,rfl,hsz⟩:=okWide_struct Tryz.underlying30 hv
 obtain⟨c0,c1,c2,c3,c4,c5,c6,c7,c8,c9,c10,c11,c12,c13,c14,c15,c16,c17,c18,rfl⟩:=array19 (hsz.trans kc30)
 obtain⟨fuel,hf⟩:=h
 have hf':DataW.trod enc Tryz.prog W 0 (fun _=>true) true fuel 30 [c0,c1,c2,c3,c4,c5,c6,c7,c8,c9,c10,c11,c12,c13,c14,c15,c16,c17,c18]=some (dd,p):=by simpa [Value.cells] using hf
 obtain⟨xs,n,-,ex,-,hlen,hg⟩:=DataW.trod_struct Tryz.underlying30 hf'
 have hl:xs.length=4:=hlen.trans (by rfl)
 match xs,hl with
 | [x0,x1,x2,x3],_ =>
 have g0:DataW.trod enc Tryz.prog W 0 (fun _=>true) true n 23 [c0,c1,c2,c3,c4,c5,c6,c7]=some x0:=by rw[show [c0,c1,c2,c3,c4,c5,c6,c7]=([c0,c1,c2,c3,c4,c5,c6,c7,c8,c9,c10,c11,c12,c13,c14,c15,c16,c17,c18].drop 0).take (Tryz.prog.cellsOf 23) by rw[kc23];rfl];exact hg 0 _ rfl
 have g1:DataW.trod enc Tryz.prog W 0 (fun _=>true) true n 24 [c8]=some x1:=by rw[show [c8]=([c0,c1,c2,c3,c4,c5,c6,c7,c8,c9,c10,c11,c12,c13,c14,c15,c16,c17,c18].drop 8).take (Tryz.prog.cellsOf 24) by rw[kc24];rfl];exact hg 1 _ rfl
 have g2:DataW.trod enc Tryz.prog W 0 (fun _=>true) true n 3 [c9]=some x2:=by rw[show [c9]=([c0,c1,c2,c3,c4,c5,c6,c7,c8,c9,c10,c11,c12,c13,c14,c15,c16,c17,c18].drop 9).take (Tryz.prog.cellsOf 3) by rw[kc3];rfl];exact hg 2 _ rfl
 have g3:DataW.trod enc Tryz.prog W 0 (fun _=>true) true n 28 [c10,c11,c12,c13,c14,c15,c16,c17,c18]=some x3:=by rw[show [c10,c11,c12,c13,c14,c15,c16,c17,c18]=([c0,c1,c2,c3,c4,c5,c6,c7,c8,c9,c10,c11,c12,c13,c14,c15,c16,c17,c18].drop 10).take (Tryz.prog.cellsOf 28) by rw[kc28];rfl];exact hg 3 _ rfl
 obtain⟨cd,ch,cl,cv,cu,cx,ct,cn,rfl,rfl,rfl,rfl,rfl,rfl,rfl,rfl⟩:=cfg_cells g0
 obtain⟨s,es,-,ws⟩:=DataW.trod_int Tryz.underlying24 g1
 obtain⟨rk,er,-,wr⟩:=DataW.trod_int Tryz.underlying3 g2
 obtain rfl:c8=.int .u64 s:=by simpa using es
 obtain rfl:c9=.int .i64 rk:=by simpa using er
 obtain⟨q,zs,eq,hq⟩:=ask_cells g3
 simp only[List.cons.injEq,and_true] at eq
 obtain⟨rfl,rfl,rfl,rfl,rfl,rfl,rfl,rfl,rfl⟩:=eq
 exact⟨⟨⟨cd,ch,cl,cv,cu,cx,ct,cn⟩,s,rk,q⟩,zs,rfl,⟨ws,hq⟩⟩
end
theorem AkAt.below {w w':World} {q:Aq} {zs:List Int} (h:AkAt w q zs) (hb:Below w.heap.size w w'):AkAt w' q zs:=⟨h.ws,h.wL,h.t.below hb,h.te,h.tl⟩
theorem arrayOf9 {α:Type} {cs:Array α} (h:cs.size=9):∃ c0 c1 c2 c3 c4 c5 c6 c7 c8,cs=#[c0,c1,c2,c3,c4,c5,c6,c7,c8]:=by
 obtain⟨l⟩:=cs
 match l,h with
 | [c0,c1,c2,c3,c4,c5,c6,c7,c8],_=>exact⟨c0,c1,c2,c3,c4,c5,c6,c7,c8,rfl⟩
theorem open_ask {H:Type} {enc:TypeId × Value→H} {W:World} {b0:Nat} {r:Reach} {v:Value} {dd:DataW H} {p:List MemPlace} (hv:Value.okWide Tryz.prog W r b0 28 v) (h:DataW.Trod enc Tryz.prog W 0 (fun _=>true) true 28 v dd p):∃ q zs,v=Aq.w q∧AkAt W q zs:=by
 obtain⟨cs,rfl,hsz⟩:=okWide_struct Tryz.underlying28 hv
 obtain⟨c0,c1,c2,c3,c4,c5,c6,c7,c8,rfl⟩:=arrayOf9 (hsz.trans kc28)
 obtain⟨fuel,hf⟩:=h
 obtain⟨q,zs,e,h⟩:=ask_cells (show DataW.trod enc Tryz.prog W 0 (fun _=>true) true fuel 28 [c0,c1,c2,c3,c4,c5,c6,c7,c8]=some (dd,p) by simpa [Value.cells] using hf)
 exact⟨q,zs,congrArg (fun l:List Value=>Value.agg l.toArray) e,h⟩
end
end Go.Proofs.YtbkjhfmehemgpaaGreat

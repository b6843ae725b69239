/- Texts put together. -/
import Derived.Test.YthliomlmhfjhnaaGreatRows
import Derived.Test.YthliomlmhfjhnaaGreatZf24
import Derived.Laws.MakeOwn
namespace Go.Proofs.YthliomlmhfjhnaaGreat
set_option maxRecDepth 20000
set_option maxHeartbeats 16000000
open Go.ChangeShapes Go.WideShapes Go.ChangeAt Go.RowKit
set_option linter.unusedVariables false
set_option linter.unusedSimpArgs false
section
theorem wpList_make_part {P:Program}(w:World){ops:Array Oper}{rest:List Oper}{o:Oper}{a:Act}{Q:Exit→Act→World→Prop}
  (hg:o.guard=none) (l c:Operand) (t:TypeId) (hop:o.op=Op.makeSlice t l c)
  (e:TypeId) (i:TypeInfo) (z:Value) (h1:P.underlying t=some (.slice e)) (h2:P.info? e=some i) (h3:i.zero=some z) (h4:i.size=1)
  (kl kc:IntKind) (L C:Int) (n m:Nat) (hl:a.eval l=.int kl L) (hc:a.eval c=.int kc C) (hL:L=(n:Int)) (hC:C=(m:Int)) (hnm:n≤m) (b2:i.bytes*m≤281474976710656) (b3:m≤maxLen)
  (hK:∀ w',w'.ownsRow w.heap.size e 1 (.slice (some ⟨w.heap.size,0,none⟩) n m) n ((madeCells z.cells m).toList.take n)→Below w.heap.size w w'→wpList P ops Q rest (a.put o.dst (.slice (some ⟨w.heap.size,0,none⟩) n m)) w') :
  wpList P ops Q (o :: rest) a w:=by
 refine wpList_plain hg fun K hK'=>?_
 subst hL
 subst hC
 have b3':m≤9223372036854775807:=by unfold maxLen at b3;omega
 have hby:((i.bytes*m:Nat):Int)≤281474976710656:=by omega
 rw[Int.natCast_mul] at hby
 have hrun:=run_make (P:=P) w t e i z h1 h2 h3 kl kc n m (by omega) (by omega) hby (by omega)
 simp only[Int.toNat_natCast,h4,Nat.mul_one] at hrun
 unfold Oper.wp
 simp[execOp,hop,hl,hc,hrun,Result.andThen]
 refine hK' _ _ (hK _ ⟨?_,.inr ⟨w.heap.size,m,_,rfl,Nat.le_refl _,heap_alloc_new w _,hnm,b3,?_,?_⟩⟩ (bNw (Below.refl _ _) _))
 ·simp[size_madeCells];omega
 ·rw[size_madeCells,Nat.mul_one]
 ·rw[Nat.mul_one]
theorem own_parts {w wr:World}{a:Option Addr}{n:Nat}{A:Nat→Option Addr}{C:Nat→Nat}{P:Nat→List Int}(h:Grid w a n A C P)(hb:Below w.heap.size w wr){f d:Nat}(hd:0<d)(hr:∀ r,r<n→f+d≤(P r).length){v:Value}{cs:List Value}{G:Nat→Nat}(ho:wr.ownsRow w.heap.size 34 1 v n cs)
  (hc:∀ j,j<n→cs[j]? = some (.slice (cutA A f j) d (G j))) (last:List Int):OwnGrid w.heap.size wr v n (cutA A f) G (partL P n f d last):=by
 have el:∀ r,r<n→partL P n f d last r=cutR P f d r:=fun r hr'=>by unfold partL cutR;rw[if_pos hr']
 have ln:∀ r,r<n→(partL P n f d last r).length=d:=fun r hr'=>by rw[el r hr',cutR_length P f d r (hr r hr')]
 have rd:∀ r,r<n→Reads .i64 w (cutA A f r) d (partL P n f d last r):=fun r hr'=>by
  rw[el r hr']
  have q:=h.row r hr'
  obtain⟨y,ey⟩:=q.some_ (by have:=hr r hr';omega)
  have eA:cutA A f r=some (y.add f):=by unfold cutA;rw[ey];rfl
  rw[eA]
  rw[ey] at q
  exact q.cut f d (hr r hr')
 have e:cs=heads (cutA A f) G (partL P n f d last) n:=by
  refine List.ext_getElem? fun j=>?_
  by_cases hj:j<n
  ·rw[hc j hj]
   simp[heads,hj,ln j hj]
  ·have:=own_length ho
   rw[List.getElem?_eq_none (by omega),List.getElem?_eq_none (by simp[heads];omega)]
 refine⟨e ▸ ho,fun r hr'=>by rw[ln r hr'];exact (rd r hr').below hb,fun r hr' h0 x hx g hg=>?_⟩
 have c0:=(rd r hr').cell x hx 0 (by omega)
 have lt:x.block<w.heap.size:=by
  have:=World.block_lt_of_cell? w _ c0
  simpa [Addr.add] using this
 have:=(ho.lt g hg).1
 omega
theorem cutEach_md (a:Option Addr)(n c:Nat)(A:Nat→Option Addr)(C:Nat→Nat)(P:Nat→List Int)(f d:Nat)(last:List Int)(w:World)(h:Grid w a n A C P)(hC:∀ r,r<n→(P r).length≤C r)(hd:0<d)(hr:∀ r,r<n→f+d≤(P r).length)(hb:n≤1000) :
  Calls Tryz.prog 61 #[.slice a n c,.int .i64 f,.int .i64 d] w fun e w'=>e=.returned (.slice (some ⟨w.heap.size,0,none⟩) n (n+1))∧OwnGrid w.heap.size w' (.slice (some ⟨w.heap.size,0,none⟩) n (n+1)) n (cutA A f) (fun _=>d) (partL P n f d last)∧Below w.heap.size w w':=by
 obtain⟨i0,hi,hz0,hz1,hz2⟩:=info_parts info34
 have hm:=h.max
 obtain⟨m,em⟩:∃ m,n+1=m:=⟨_,rfl⟩
 have em':(n:Int)+1=(m:Int):=by omega
 have hmb:m≤1001:=by omega
 have hnm:n≤m:=by omega
 rw[em]
 clear em
 go_enter Tryz.func61,Tryz.ntmps61
 go_wp2_with (first
  | (at_make;refine wpList_make_part _ rfl (.tmp 11) (.tmp 14) 31 rfl 34 i0 (.slice none 0 0) Tryz.underlying31 hi hz0 hz1 .i64 .i64 _ _ n m rfl rfl rfl (by first|rfl|omega) hnm (by rw[hz2];omega) (by unfold maxLen;omega) ?_;intro w1 hown hbel))
 clear em'
 go_wp2
 go_loopw [18] (fun i wr=>∃ k:Nat,k≤n∧i=.int .i64 k∧Below w.heap.size w wr∧∃ cs,wr.ownsRow w.heap.size 34 1 (.slice (some ⟨w.heap.size,0,none⟩) n m) n cs∧∀ j,j<k→cs[j]? = some (.slice (cutA A f j) d d)) (fun i _=>n-(intOf i).toNat)
 case atStart=>exact⟨0,Nat.zero_le _,rfl,hbel,_,hown,fun j hj=>by omega⟩
 case round =>
  clear hown hbel
  obtain⟨k,hk,rfl,hbr,cs,ho,hcs⟩:=hrel
  by_cases hlt:k<n
  ·obtain⟨x,rfl⟩:=h.some_ (by omega)
   have rk:=h.row k hlt
   have cx:=(h.below hbr).cell x rfl k hlt
   have h1:=hr k hlt
   have h2:=hC k hlt
   have h3:=rk.max
   obtain⟨y,ey⟩:=rk.some_ (by omega)
   have eA:cutA A f k=some (y.add f):=by unfold cutA;rw[ey];rfl
   rw[ey] at cx
   obtain⟨G,eG⟩:∃ G,(P k).length=G:=⟨_,rfl⟩
   rw[eG] at cx h1 h2 h3
   obtain⟨K,eK⟩:∃ K,C k=K:=⟨_,rfl⟩
   rw[eK] at cx h2
   obtain⟨Q,eQ⟩:∃ Q,f+d=Q:=⟨_,rfl⟩
   have eQ':(f:Int)+(d:Int)=(Q:Int):=by omega
   have eQ2:Q-f=d:=by omega
   have hQ:Q≤G:=by omega
   have hQ':Q≤K:=by omega
   have hP:f<Q:=by omega
   have hlen:=own_length ho
   obtain⟨u,hu⟩:∃ u,cs[k]? = some u:=⟨cs[k],by simp[hlen,hlt]⟩
   have cell:wr.cell? ⟨w.heap.size,k,none⟩=some u:=(ho.cellAt k (by omega)).trans hu
   have froz:=ho.frozenAt k
   have Rr:Hid (Below w.heap.size w (wr.setCell ⟨w.heap.size,k,none⟩ (.slice (some (y.add f)) d d))∧∃ cs',(wr.setCell ⟨w.heap.size,k,none⟩ (.slice (some (y.add f)) d d)).ownsRow w.heap.size 34 1 (.slice (some ⟨w.heap.size,0,none⟩) n m) n cs'∧∀ j,j<k+1→cs'[j]? = some (.slice (cutA A f j) d d)) :=
    ⟨hbr.setCell (Nat.le_refl _) _,_,(ho.stored k _).1,set_step (F:=fun j=>Value.slice (cutA A f j) d d) hlen hlt (by rw[eA]) hcs⟩
   clear eQ eG eK eA ey rk ho hcs hlen hbr hu h hr hC hi hz0 hz1 hz2
   go_wp2
   go_roundw
   case rel=>exact⟨k+1,by omega,by go_num,Rr.out⟩
   case measure=>simp[intOf];omega
  ·have e:k=n:=by omega
   subst e
   have fin:=own_parts h hbr hd hr ho hcs last
   clear hcs ho
   go_wp2
   go_ret
   exact⟨rfl,fin,hbr⟩
end
section
theorem emb_at (M:Md)(tok j:Nat)(hj:j<M.D):(embL M tok).getD j 0=M.m.e.getD (tok*M.D+j) 0*1024:=by simp[embL,hj]
theorem wf_i8' {y:Int}(h:(Lit.int .i8 y).wf=true):-128≤y∧y≤127:=by
 simpa [Lit.wf,IntKind.min,IntKind.max,IntKind.signed,IntKind.bits] using h
theorem wf_embL {M:Md}(he:∀ i,(Lit.int .i8 (M.m.e.getD i 0)).wf=true)(tok:Nat):∀ z∈embL M tok,(Lit.int .i64 z).wf=true:=fun z hz=>by
 obtain⟨y,_,rfl⟩:=List.mem_map.1 hz
 have:=wf_i8' (he (tok*M.D+y))
 exact WalkArith.wf_i64 ⟨by omega,by omega⟩
theorem embedded_call (M:Md)(E L N O:SL)(Y U D:Nat→Nat→SL)(F:MdFit M)(w:World)(hM:ModAt w E L N O Y U D M.m)(tok:Nat)(ht:(tok:Int)<M.v) :
  Calls Tryz.prog 59 #[.agg #[.int .i64 M.d,.int .i64 M.h,.int .i64 M.l,.int .i64 M.v,.int .i64 M.u,.int .i64 M.x,.int .i64 M.t,.int .i64 M.n,.slice E.a E.n E.c,.slice L.a L.n L.c,.slice N.a N.n N.c,.slice O.a O.n O.c],.int .i64 tok] w fun e w'=>(∃ a c,e=.returned (.slice a M.D c)∧Reads .i64 w' a M.D (embL M tok)∧∀ x,a=some x→w.heap.size≤x.block)∧Below w.heap.size w w':=by
 obtain⟨i0,hi,hz0,hz1,hz2⟩:=info_parts info2
 have d0:=F.d0
 have d1:=F.d1
 have v1:=F.v1
 have eD:=F.eD
 have he:=hM.e
 have elen:(E.n:Int)=M.v*M.D:=by rw[←he.reads.len];exact F.e
 obtain⟨V,hV⟩:∃ V:Nat,M.v=V:=⟨M.v.toNat,by have:=F.v0;omega⟩
 have elen':E.n=V*M.D:=by rw[hV,←Int.natCast_mul] at elen;exact Int.ofNat.inj elen
 have hp:(tok+1)*M.D≤V*M.D:=Nat.mul_le_mul_right _ (by omega)
 rw[Nat.succ_mul] at hp
 have hpb:V*M.D≤16*8:=Nat.mul_le_mul (by omega) d1
 obtain⟨Ea,En,Ec⟩:=E
 obtain⟨y,rfl⟩:∃ y,Ea=some y:=he.reads.some_ (by show 0<En;have:En=V*M.D:=elen';omega)
 obtain⟨P,eP⟩:∃ P,tok*M.D=P:=⟨_,rfl⟩
 have ip:(tok:Int)*(M.D:Int)=(P:Int):=by rw[←eP];simp
 have wfE:=he.reads.wf
 have hE:Reads .i8 w (some y) En M.m.e:=he.reads
 have hcap:En≤Ec:=he.cap
 have elen2:En=V*M.D:=elen'
 have hin:∀ j,j<M.D→P+j<En:=fun j hj=>by omega
 have hEs:En≤128:=by omega
 obtain⟨W0,eW⟩:∃ W0,w.alloc (.cells #[.int .i64 M.d,.int .i64 M.h,.int .i64 M.l,.int .i64 M.v,.int .i64 M.u,.int .i64 M.x,.int .i64 M.t,.int .i64 M.n,.slice (some y) En Ec,.slice L.a L.n L.c,.slice N.a N.n N.c,.slice O.a O.n O.c] 27)=W0:=⟨_,rfl⟩
 have hb0:Below w.heap.size w W0:=eW ▸ bNw (Below.refl _ w) _
 have q0:Blk 27 W0 w.heap.size #[.int .i64 M.d,.int .i64 M.h,.int .i64 M.l,.int .i64 M.v,.int .i64 M.u,.int .i64 M.x,.int .i64 M.t,.int .i64 M.n,.slice (some y) En Ec,.slice L.a L.n L.c,.slice N.a N.n N.c,.slice O.a O.n O.c]:=eW ▸ Blk.new 27 w _
 have hE0:=hE.below hb0
 have HQ:=hdn q0
 have c0:W0.cell? ⟨w.heap.size,0,none⟩=some (.int .i64 M.d):=q0.cell 0 rfl
 obtain⟨D0,eD0⟩:∃ D0,M.D=D0:=⟨_,rfl⟩
 have eE:∀ j,j<D0→(embL M tok).getD j 0=M.m.e.getD (P+j) 0*1024:=fun j hj=>by rw[emb_at M tok j (by omega),eP]
 have ll:(embL M tok).length=D0:=by rw[embL_length,eD0]
 have wfe:=wf_embL (M:=M) wfE tok
 obtain⟨zs,ezs⟩:∃ zs,embL M tok=zs:=⟨_,rfl⟩
 obtain⟨es,ees⟩:∃ es,M.m.e=es:=⟨_,rfl⟩
 rw[ezs] at eE ll wfe ⊢
 rw[ees] at eE hE0 wfE
 rw[eD0] at eD ip d0 d1 hin ⊢
 clear q0 hM F he elen elen' hp hpb eP hE hb0 hcap elen2 hV ht v1 ezs ees eD0
 have Hb:Hid (Below w.heap.size w W0):=eW ▸ bNw (Below.refl _ w) _
 have ED:Hid (M.d=(D0:Int)):=eD
 clear eD
 dsimp only
 go_enter Tryz.func59,Tryz.ntmps59
 go_wp2_with (first|(at_make;(refine wpList_make_full _ rfl (.tmp 9) (.tmp 9) 34 rfl W0.heap.size 2 i0 (.int .i64 0) 1 Tryz.underlying34 hi hz0 hz1 .i64 .i64 _ _ D0 rfl rfl ED.out ED.out (by rw[hz2];omega) (by unfold maxLen;omega) (Nat.le_refl _) ?_);intro w1 hown hgrow))
 have hbel:Below W0.heap.size W0 w1:=(Below.refl _ _).grown hgrow (Nat.le_refl _) (fun k h=>by cases h)
 clear hgrow eW c0
 obtain⟨B0,eB0⟩:∃ B0,W0.heap.size=B0:=⟨_,rfl⟩
 rw[eB0] at hown hbel ⊢
 obtain⟨b,eb⟩:∃ b,w.heap.size=b:=⟨_,rfl⟩
 rw[eb] at HQ ⊢
 go_wp2
 go_loopw [13] (fun i wr=>∃ k:Nat,k≤D0∧i=.int .i64 k∧Below B0 W0 wr∧∃ cs,wr.ownsRow B0 2 1 (.slice (some ⟨B0,0,none⟩) D0 D0) D0 cs∧∀ j,j<k→cs[j]? = some (.int .i64 (zs.getD j 0))) (fun i _=>D0-(intOf i).toNat)
 case atStart=>exact⟨0,Nat.zero_le _,rfl,hbel,_,hown,fun j hj=>by omega⟩
 case round =>
  clear hown hbel
  obtain⟨k,hk,rfl,hbr,cs,ho,hcs⟩:=hrel
  by_cases hlt:k<D0
  ·have hbr':Below W0.heap.size W0 wr:=eB0 ▸ hbr
   have c8:=(HQ.out.kept hbr').cell 8 (v:=.slice (some y) En Ec) rfl
   have hin':=hin k hlt
   have cy:=(hE0.below hbr').cell y rfl (P+k) hin'
   obtain⟨Q,eQ⟩:∃ Q,P+k=Q:=⟨_,rfl⟩
   have iQ:(P:Int)+(k:Int)=(Q:Int):=by omega
   have ek:=eE k hlt
   rw[eQ] at cy hin' ek
   have wq:=wf_i8' (wfE Q)
   obtain⟨X,eX⟩:∃ X,es.getD Q 0=X:=⟨_,rfl⟩
   rw[eX] at cy ek wq
   have hlen:=own_length ho
   obtain⟨u,hu⟩:∃ u,cs[k]? = some u:=⟨cs[k],by simp[hlen,hlt]⟩
   have cell:wr.cell? ⟨B0,k,none⟩=some u:=(ho.cellAt k (by omega)).trans hu
   have froz:=ho.frozenAt k
   have R:Hid (Below B0 W0 (wr.setCell ⟨B0,k,none⟩ (.int .i64 (X*1024)))∧∃ cs',(wr.setCell ⟨B0,k,none⟩ (.int .i64 (X*1024))).ownsRow B0 2 1 (.slice (some ⟨B0,0,none⟩) D0 D0) D0 cs'∧∀ j,j<k+1→cs'[j]? = some (.int .i64 (zs.getD j 0))) :=
    ⟨hbr.setCell (Nat.le_refl _) _,_,(ho.stored k _).1,set_step (F:=fun j=>Value.int .i64 (zs.getD j 0)) hlen hlt (by rw[ek]) hcs⟩
   clear eQ eX ek ho hcs hlen hu hbr hbr' hin eE wfe wfE hi hz0 hz1 hz2
   go_wp2
   go_roundw
   case rel=>exact⟨k+1,by omega,by go_num,R.out⟩
   case measure=>simp[intOf];omega
  ·have e:k=D0:=by omega
   subst e
   have fin:=own_reads_at (zs:=zs) ho ll wfe hcs
   clear hcs ho eE
   have hbr':Below W0.heap.size W0 wr:=eB0 ▸ hbr
   have hbw:=bTn Hb.out hbr'
   have frs:Hid (∀ x:Addr,some (⟨B0,0,none⟩:Addr)=some x→w.heap.size≤x.block):=fun x hx=>by
    have h1:B0=x.block:=congrArg Addr.block (Option.some.inj hx)
    have h2:=Hb.out.size
    omega
   clear hbr hbr'
   go_wp2
   go_ret
   exact⟨⟨_,_,rfl,fin,frs.out⟩,hbw⟩
end
section
theorem small_call (w:World):Calls Tryz.prog 52 #[] w fun e w'=>e=.returned (.agg #[.int .i64 2,.int .i64 1,.int .i64 1,.int .i64 2,.int .i64 1,.int .i64 0,.int .i64 0,.int .i64 0])∧Below w.heap.size w w':=by
 have hb:=bNw (Below.refl w.heap.size w) (.cells #[.int .i64 2,.int .i64 1,.int .i64 1,.int .i64 2,.int .i64 1,.int .i64 0,.int .i64 0,.int .i64 0] 23)
 go_enter Tryz.func52,Tryz.ntmps52
 go_wp2
 refine bodyPost_ret (v:=.agg #[.int .i64 2,.int .i64 1,.int .i64 1,.int .i64 2,.int .i64 1,.int .i64 0,.int .i64 0,.int .i64 0]) ?_ rfl ⟨rfl,hb⟩
 simp[results,Tryz.results52,go_sem]
end
end Go.Proofs.YthliomlmhfjhnaaGreat

/- Texts put together. -/
import Derived.Test.YthliomlmhfjhnaaGreatRows
import Derived.Test.YthliomlmhfjhnaaGreatZf46
import Derived.Test.YthliomlmhfjhnaaGreatZf39
import Derived.Test.YthliomlmhfjhnaaGreatZf35
namespace Go.Proofs.YthliomlmhfjhnaaGreat
set_option maxRecDepth 20000
set_option maxHeartbeats 16000000
open Go.ChangeShapes Go.WideShapes Go.ChangeAt Go.RowKit
set_option linter.unusedVariables false
set_option linter.unusedSimpArgs false
section
theorem seq_of (ln ne:Nat)(S:Nat→List Int)(k:Nat)(hk:k<1+ln*pl ne+2):seqOf (ofSeq ln ne S) ne k=S k:=by
 rcases plan_cases ln ne k hk with rfl|⟨i,r,hi,hr,rfl⟩|⟨i,j,hi,hj,rfl|rfl⟩|rfl|rfl
 ·rfl
 ·exact seqOf_list (ofSeq ln ne S) ne i r hi hr
 ·exact seqOf_up (ofSeq ln ne S) ne i j hi hj
 ·exact seqOf_down (ofSeq ln ne S) ne i j hi hj
 ·exact seqOf_norm (ofSeq ln ne S) ne
 ·exact seqOf_out (ofSeq ln ne S) ne
theorem seg_len (cnt:Nat→Nat)(T:Nat)(ws:List Int)(h:ws.length=offs cnt T)(k:Nat)(hk:k<T):(seg cnt ws k).length=cnt k:=by
 have:=offs_mono cnt (show k+1≤T by omega)
 have e:offs cnt (k+1)=offs cnt k+cnt k:=rfl
 unfold seg
 rw[List.length_take,List.length_drop]
 omega
theorem shape_checked {d h l v u x t n:Int}(ok:okB d h l v u x t n=true)(ws:List Int)(hl:ws.length=offs (cntOf d l v u x) (allT l x)):checkB d h l v u x t n (shapeV d l v u x ws)=0:=by
 have dm:=dims_of ok
 have fr:framedB l x (shapeV d l v u x ws)=true:=decide_eq_true ⟨dm.el.symm,fun i hi=>⟨dm.en.symm,dm.en.symm⟩⟩
 unfold checkB
 rw[ok,fr]
 show lensZ _ _ _=0
 refine lens_ok _ _ _ fun k hk=>?_
 have:seqOf (shapeV d l v u x ws) (netsN x) k=seg (cntOf d l v u x) ws k:=seq_of _ _ _ k hk
 rw[this]
 exact seg_len _ _ ws hl k hk
def adR (rank:Int):Int:=IntKind.u64.wrap rank%5
def adS (rank s:Int):Int:=if adR rank=0 then 0 else s%3
def adV (rank d l s:Int):AdV:=if adR rank=0 then noA else grshapeV l.toNat (adR rank*d).toNat (wtL s (l*4*adR rank*d).toNat)
def made (d h l v u x t n s rank:Int):Md:=⟨d,h,l,v,u,x,t,n,shapeV d l v u x (wtL s (szZ d l v u x).toNat),adR rank,adS rank s,adV rank d l s⟩
theorem adR_bounds (rank:Int):0≤adR rank∧adR rank≤4:=by unfold adR;omega
theorem segA_length {N T:Nat}{ws:List Int}(h:ws.length=T*N){q:Nat}(hq:q<T):(segA N ws q).length=N:=by
 have h1:(q+1)*N≤T*N:=Nat.mul_le_mul_right _ (by omega)
 rw[Nat.succ_mul] at h1
 unfold segA
 rw[List.length_take,List.length_drop]
 omega
theorem nat_prod {l R d:Int}(hl:0≤l)(hR:0≤R)(hd:0≤d):(l*4*R*d).toNat=4*l.toNat*(R*d).toNat∧0≤R*d:=by
 obtain⟨L,rfl⟩:∃ L:Nat,l=L:=⟨l.toNat,by omega⟩
 obtain⟨R',rfl⟩:∃ R':Nat,R=R':=⟨R.toNat,by omega⟩
 obtain⟨D,rfl⟩:∃ D:Nat,d=D:=⟨d.toNat,by omega⟩
 have e:((L:Int)*4*R'*D)=((4*L*(R'*D):Nat):Int):=by
  rw[Int.natCast_mul,Int.natCast_mul,Int.natCast_mul,Int.mul_assoc,Int.mul_comm (L:Int) 4]
  rfl
 have e2:((R':Int)*D)=((R'*D:Nat):Int):=by rw[Int.natCast_mul]
 rw[e,e2]
 exact⟨by rw[Int.toNat_natCast,Int.toNat_natCast,Int.toNat_natCast],by omega⟩
theorem adV_check {d h l v u x t n:Int}(ok:okB d h l v u x t n=true)(rank s:Int)(hr:adR rank≠0):checkA (adR rank) (adS rank s) d h l v u x t n (adV rank d l s)=0:=by
 have r:=right_of ok
 have hb:=adR_bounds rank
 have d0:=r.d0
 have l0:=r.l0
 obtain⟨e1,e2⟩:=nat_prod (l:=l) (R:=adR rank) (d:=d) (by omega) hb.1 (by omega)
 unfold checkA
 rw[if_pos,if_pos]
 ·unfold adV
  rw[if_neg hr]
  refine⟨by show (l.toNat:Int)=l;omega,lensA_iff.2 fun i hi j hj=>?_⟩
  have hi':i<l.toNat:=hi
  show ((segA (adR rank*d).toNat (wtL s (l*4*adR rank*d).toNat) (4*i+j)).length:Int)=_
  rw[segA_length (T:=4*l.toNat) (by rw[wtL_length,e1]) (by omega)]
  omega
 ·unfold okA adS
  rw[ok,if_neg hr]
  simp only[Bool.true_and,Bool.and_eq_true,decide_eq_true_eq]
  omega
theorem made_ok {d h l v u x t n:Int}(ok:okB d h l v u x t n=true)(s rank:Int):MdOk (made d h l v u x t n s rank):=by
 have dm:=dims_of ok
 refine⟨ok,shape_checked ok _ ?_,fun hr=>adV_check ok rank s hr⟩
 rw[wtL_length,dm.sz]
 simp
theorem made_bad {d h l v u x t n:Int}(ok:okB d h l v u x t n=true)(s rank:Int):badE (made d h l v u x t n s rank)=0:=(made_ok ok s rank).none_bad
end
section
structure MT where
 E:SL
 L:SL
 N:SL
 O:SL
 Y:Nat→Nat→SL
 U:Nat→Nat→SL
 D:Nat→Nat→SL
theorem mt_law {m:ModV}:InLaw (T:=MT) (fun t lo hi w=>ModIn lo hi w t.E t.L t.N t.O t.Y t.U t.D m):=⟨fun h hb=>h.below hb,fun h o hb=>h.only o hb⟩
theorem ModIn.new {lo hi g:Nat}{w:World}{E L N O:SL}{Y U D:Nat→Nat→SL}{m:ModV}(h:ModIn lo hi w E L N O Y U D m)(hg:g≤lo):NewM g w E L N O Y U D m:=fun w' hc=>h w' fun p v hp h1 h2=>hc p v hp (Nat.le_trans hg h1)
theorem AdIn.new {lo hi g:Nat}{w:World}{L:SL}{Y:Nat→Nat→SL}{m:AdV}(h:AdIn lo hi w L Y m)(hg:g≤lo):NewA g w L Y m:=fun w' hc=>h w' fun p v hp h1 h2=>hc p v hp (Nat.le_trans hg h1)
theorem run_load23y {w:World}{b:Nat}{d h l v u x t n:Int}(q:Blk 23 w b #[.int .i64 d,.int .i64 h,.int .i64 l,.int .i64 v,.int .i64 u,.int .i64 x,.int .i64 t,.int .i64 n]):(Instr.loadAt 23 (.pointer (some ⟨b,0,none⟩))).run Tryz.prog w=.ok (.agg #[.int .i64 d,.int .i64 h,.int .i64 l,.int .i64 v,.int .i64 u,.int .i64 x,.int .i64 t,.int .i64 n]) w:=by
 obtain⟨c0,c1,c2,c3,c4,c5,c6,c7⟩:=q.c8
 go_simp
theorem model_walk (d h l v u x t n s sz ee:Int)(nn:Nat)(zs:List Int)(B:Bool)(k0 k1 k2 k3 k4 k5 k6 k7:Int)(m:ModV)(w:World)(hB:(ee==0)=B)
  (c41:∀ w,Calls Tryz.prog 41 #[.agg #[.int .i64 d,.int .i64 h,.int .i64 l,.int .i64 v,.int .i64 u,.int .i64 x,.int .i64 t,.int .i64 n]] w fun e w'=>e=.returned (.int .i64 sz)∧Below w.heap.size w w')
  (c40:∀ w,Calls Tryz.prog 40 #[.int .i64 sz,.int .u64 s] w fun e w'=>(∃ a c,e=.returned (.slice a nn c)∧IsS w' ⟨a,nn,c⟩ zs)∧Below w.heap.size w w')
  (c39:∀ w ya yc,IsS w ⟨ya,nn,yc⟩ zs→Calls Tryz.prog 39 #[.agg #[.int .i64 d,.int .i64 h,.int .i64 l,.int .i64 v,.int .i64 u,.int .i64 x,.int .i64 t,.int .i64 n],.slice ya nn yc] w fun e w'=>∃ t:MT,e=.returned (.tuple #[.agg #[.int .i64 k0,.int .i64 k1,.int .i64 k2,.int .i64 k3,.int .i64 k4,.int .i64 k5,.int .i64 k6,.int .i64 k7,.slice t.E.a t.E.n t.E.c,.slice t.L.a t.L.n t.L.c,.slice t.N.a t.N.n t.N.c,.slice t.O.a t.O.n t.O.c],.int .i64 ee])∧ModIn w.heap.size w'.heap.size w' t.E t.L t.N t.O t.Y t.U t.D m∧Below w.heap.size w w') :
  Calls Tryz.prog 19 #[.agg #[.int .i64 d,.int .i64 h,.int .i64 l,.int .i64 v,.int .i64 u,.int .i64 x,.int .i64 t,.int .i64 n],.int .u64 s] w fun e w'=>∃ t:MT,e=.returned (.tuple #[.agg #[.int .i64 k0,.int .i64 k1,.int .i64 k2,.int .i64 k3,.int .i64 k4,.int .i64 k5,.int .i64 k6,.int .i64 k7,.slice t.E.a t.E.n t.E.c,.slice t.L.a t.L.n t.L.c,.slice t.N.a t.N.n t.N.c,.slice t.O.a t.O.n t.O.c],.bool B])∧NewM w.heap.size w' t.E t.L t.N t.O t.Y t.U t.D m∧Below w.heap.size w w':=by
 have hb:=bNw (bNw (Below.refl w.heap.size w) (.cells #[.int .i64 d,.int .i64 h,.int .i64 l,.int .i64 v,.int .i64 u,.int .i64 x,.int .i64 t,.int .i64 n] 23)) (.cells #[.int .i64 0,.int .i64 0,.int .i64 0,.int .i64 0,.int .i64 0,.int .i64 0,.int .i64 0,.int .i64 0,.slice none 0 0,.slice none 0 0,.slice none 0 0,.slice none 0 0] 27)
 have qc:Blk 23 ((w.alloc (.cells #[.int .i64 d,.int .i64 h,.int .i64 l,.int .i64 v,.int .i64 u,.int .i64 x,.int .i64 t,.int .i64 n] 23)).alloc (.cells #[.int .i64 0,.int .i64 0,.int .i64 0,.int .i64 0,.int .i64 0,.int .i64 0,.int .i64 0,.int .i64 0,.slice none 0 0,.slice none 0 0,.slice none 0 0,.slice none 0 0] 27)) w.heap.size #[.int .i64 d,.int .i64 h,.int .i64 l,.int .i64 v,.int .i64 u,.int .i64 x,.int .i64 t,.int .i64 n]:=(Blk.new 23 w _).kept (bNw (Below.refl _ _) _)
 have qr:Blk 27 ((w.alloc (.cells #[.int .i64 d,.int .i64 h,.int .i64 l,.int .i64 v,.int .i64 u,.int .i64 x,.int .i64 t,.int .i64 n] 23)).alloc (.cells #[.int .i64 0,.int .i64 0,.int .i64 0,.int .i64 0,.int .i64 0,.int .i64 0,.int .i64 0,.int .i64 0,.slice none 0 0,.slice none 0 0,.slice none 0 0,.slice none 0 0] 27)) (w.heap.size+1) #[.int .i64 0,.int .i64 0,.int .i64 0,.int .i64 0,.int .i64 0,.int .i64 0,.int .i64 0,.int .i64 0,.slice none 0 0,.slice none 0 0,.slice none 0 0,.slice none 0 0]:=Blk.new_at 27 (w.alloc _) _ _ (by simp)
 have hz2:((w.alloc (.cells #[.int .i64 d,.int .i64 h,.int .i64 l,.int .i64 v,.int .i64 u,.int .i64 x,.int .i64 t,.int .i64 n] 23)).alloc (.cells #[.int .i64 0,.int .i64 0,.int .i64 0,.int .i64 0,.int .i64 0,.int .i64 0,.int .i64 0,.int .i64 0,.slice none 0 0,.slice none 0 0,.slice none 0 0,.slice none 0 0] 27)).heap.size=w.heap.size+1+1:=by simp
 go_enter Tryz.func19,Tryz.ntmps19
 go_wp2
 refine md1_region (T:=MT) (V:=fun t=>.agg #[.int .i64 k0,.int .i64 k1,.int .i64 k2,.int .i64 k3,.int .i64 k4,.int .i64 k5,.int .i64 k6,.int .i64 k7,.slice t.E.a t.E.n t.E.c,.slice t.L.a t.L.n t.L.c,.slice t.N.a t.N.n t.N.c,.slice t.O.a t.O.n t.O.c]) (cs:=fun t=>#[.int .i64 k0,.int .i64 k1,.int .i64 k2,.int .i64 k3,.int .i64 k4,.int .i64 k5,.int .i64 k6,.int .i64 k7,.slice t.E.a t.E.n t.E.c,.slice t.L.a t.L.n t.L.c,.slice t.N.a t.N.n t.N.c,.slice t.O.a t.O.n t.O.c]) (I:=fun t lo hi w=>ModIn lo hi w t.E t.L t.N t.O t.Y t.U t.D m) mt_law d h l v u x t n sz s nn w.heap.size zs (ee) #[.int .i64 0,.int .i64 0,.int .i64 0,.int .i64 0,.int .i64 0,.int .i64 0,.int .i64 0,.int .i64 0,.slice none 0 0,.slice none 0 0,.slice none 0 0,.slice none 0 0] (by kernel_rfl) rfl ⟨_,rfl,rfl,rfl,rfl,by kernel_rfl⟩ ⟨_,rfl,rfl,rfl,rfl,by kernel_rfl⟩ ⟨_,rfl,rfl,rfl,rfl,by kernel_rfl⟩ ⟨_,rfl,rfl,rfl,rfl,by kernel_rfl⟩ ⟨_,rfl,rfl,rfl,rfl,by kernel_rfl⟩ ⟨_,rfl,rfl,rfl,rfl,by kernel_rfl⟩ ⟨_,rfl,rfl,rfl,rfl,by kernel_rfl⟩ ⟨_,rfl,rfl,rfl,rfl,by kernel_rfl⟩ ⟨_,rfl,rfl,rfl,rfl,by kernel_rfl⟩ ⟨_,rfl,rfl,rfl,rfl,by kernel_rfl⟩ ⟨_,rfl,rfl,rfl,rfl,by kernel_rfl⟩ ⟨_,rfl,rfl,rfl,rfl,by kernel_rfl⟩ (fun w hw=>run_load23y (qc.kept hw)) (fun w hw=>run_load23y (qc.kept hw)) (fun w hw=>c41 w) (fun w hw=>c40 w) (fun w ya yc hw hz=>c39 w ya yc hz) rfl rfl run_alloc27 (fun w b t q=>run_store27 q ⟨k0,k1,k2,k3,k4,k5,k6,k7,m,0,0,noA⟩ t.E t.L t.N t.O) (Nat.le_of_ble_eq_true rfl) ?_
 intro a W9 b9 t9 lo9 hi9 hs hd hkp eA eE hb9 gb9 gl9 gh9 hI9 q9
 have ep:=fPu [9,10,11,12,13,14,8,15,16,6,7] hs hd (fun s h=>hkp s (fun i hi e=>h (by
  rcases (show i=0∨i=1∨i=2∨i=3∨i=4∨i=5∨i=6∨i=7∨i=8∨i=9∨i=10∨i=11 by omega) with rfl|rfl|rfl|rfl|rfl|rfl|rfl|rfl|rfl|rfl|rfl|rfl<;>first|(simp only[md1D,Option.some.injEq] at e;subst e;simp)|(simp only[md1D] at e;cases e))))
 simp only[List.foldl] at ep
 rw[eA,eE] at ep
 clear hs hd hkp eA eE
 generalize a.tmps.getD 9 undef=g9,a.tmps.getD 10 undef=g10,a.tmps.getD 11 undef=g11,a.tmps.getD 12 undef=g12,a.tmps.getD 13 undef=g13,a.tmps.getD 14 undef=g14,a.tmps.getD 8 undef=g8,a.tmps.getD 15 undef=g15,a.tmps.getD 16 undef=g16 at ep
 simp only[Act.put,List.setIfInBounds_toArray,List.set_cons_succ,List.set_cons_zero] at ep
 subst ep
 replace qr:=qr.kept hb9
 replace hb:=bTn hb hb9
 obtain⟨a0,a1,a2,a3,a4,a5,a6,a7,a8,a9,a10,a11⟩:=q9.c12
 obtain⟨r0,r1,r2,r3,r4,r5,r6,r7,r8,r9,r10,r11⟩:=qr.c12
 obtain⟨f0,f1,f2,f3,f4,f5,f6,f7,f8,f9,f10,f11⟩:=qr.o12
 clear c41 c40 c39 qc hb9
 have HI:=hdn hI9
 clear hI9
 go_wp2
 obtain⟨W6,eW6,q6,only6,hz6⟩:=set12 qr (.int .i64 k0) (.int .i64 k1) (.int .i64 k2) (.int .i64 k3) (.int .i64 k4) (.int .i64 k5) (.int .i64 k6) (.int .i64 k7) (.slice t9.E.a t9.E.n t9.E.c) (.slice t9.L.a t9.L.n t9.L.c) (.slice t9.N.a t9.N.n t9.N.c) (.slice t9.O.a t9.O.n t9.O.c)
 rw[eW6]
 have m6:=(HI.out.only only6 (.inl (by omega))).new (g:=w.heap.size) (by omega)
 have b6:Below w.heap.size w W6:=Only.below hb (by omega) hb.size only6
 refine bodyPost_ret (v:=.tuple #[.agg #[.int .i64 k0,.int .i64 k1,.int .i64 k2,.int .i64 k3,.int .i64 k4,.int .i64 k5,.int .i64 k6,.int .i64 k7,.slice t9.E.a t9.E.n t9.E.c,.slice t9.L.a t9.L.n t9.L.c,.slice t9.N.a t9.N.n t9.N.c,.slice t9.O.a t9.O.n t9.O.c],.bool B]) ?_ rfl ⟨t9,rfl,m6,b6⟩
 obtain⟨y0,y1,y2,y3,y4,y5,y6,y7,y8,y9,y10,y11⟩:=q6.c12
 simp[results,Tryz.results19,go_sem,y0,y1,y2,y3,y4,y5,y6,y7,y8,y9,y10,y11]
theorem model_yes (d h l v u x t n s:Int)(ok:okB d h l v u x t n=true)(w:World) :
  Calls Tryz.prog 19 #[.agg #[.int .i64 d,.int .i64 h,.int .i64 l,.int .i64 v,.int .i64 u,.int .i64 x,.int .i64 t,.int .i64 n],.int .u64 s] w fun e w'=>∃ t':MT,e=.returned (.tuple #[.agg #[.int .i64 d,.int .i64 h,.int .i64 l,.int .i64 v,.int .i64 u,.int .i64 x,.int .i64 t,.int .i64 n,.slice t'.E.a t'.E.n t'.E.c,.slice t'.L.a t'.L.n t'.L.c,.slice t'.N.a t'.N.n t'.N.c,.slice t'.O.a t'.O.n t'.O.c],.bool true])∧NewM w.heap.size w' t'.E t'.L t'.N t'.O t'.Y t'.U t'.D (shapeV d l v u x (wtL s (szZ d l v u x).toNat))∧Below w.heap.size w w':=by
 have dm:=dims_of ok
 have hn:(szZ d l v u x).toNat≤100000:=by have:=dm.sz;have:=dm.sz1;omega
 have e1:szZ d l v u x=(((szZ d l v u x).toNat:Nat):Int):=by have:=dm.sz;omega
 have es:sizeB d h l v u x t n=szZ d l v u x:=by unfold sizeB;rw[ok];rfl
 have eG:shG d h l v u x t n (wtL s (szZ d l v u x).toNat)=true:=by unfold shG;rw[ok,wtL_length,←e1];simp
 have eE:shE d h l v u x t n (wtL s (szZ d l v u x).toNat)=0:=by unfold shE;rw[ok,wtL_length,←e1];simp
 have eM:shM d h l v u x t n (wtL s (szZ d l v u x).toNat)=shapeV d l v u x (wtL s (szZ d l v u x).toNat):=by unfold shM;rw[eG];rfl
 refine model_walk d h l v u x t n s (szZ d l v u x) 0 (szZ d l v u x).toNat (wtL s (szZ d l v u x).toNat) true d h l v u x t n (shapeV d l v u x (wtL s (szZ d l v u x).toNat)) w rfl (fun w=>?_) (fun w=>?_) (fun w ya yc hs=>?_)
 ·have:=refSize_call d h l v u x t n w
  rw[es] at this
  exact this
 ·have:=weights_call (szZ d l v u x).toNat hn s w
  rw[←e1] at this
  exact this
 ·refine (refShape_any d h l v u x t n ⟨ya,(szZ d l v u x).toNat,yc⟩ _ w hs).mono fun e w' hh=>?_
  obtain⟨E,L,N,O,Y,U,D,he,hN,hb⟩:=hh
  rw[eG,eE] at he
  rw[eM] at hN
  exact⟨⟨E,L,N,O,Y,U,D⟩,he,hN.within,hb⟩
theorem model_no (d h l v u x t n s:Int)(ok:okB d h l v u x t n=false)(w:World) :
  Calls Tryz.prog 19 #[.agg #[.int .i64 d,.int .i64 h,.int .i64 l,.int .i64 v,.int .i64 u,.int .i64 x,.int .i64 t,.int .i64 n],.int .u64 s] w fun e w'=>∃ t':MT,e=.returned (.tuple #[.agg #[.int .i64 0,.int .i64 0,.int .i64 0,.int .i64 0,.int .i64 0,.int .i64 0,.int .i64 0,.int .i64 0,.slice t'.E.a t'.E.n t'.E.c,.slice t'.L.a t'.L.n t'.L.c,.slice t'.N.a t'.N.n t'.N.c,.slice t'.O.a t'.O.n t'.O.c],.bool false])∧NewM w.heap.size w' t'.E t'.L t'.N t'.O t'.Y t'.U t'.D noV∧Below w.heap.size w w':=by
 have es:sizeB d h l v u x t n=0:=by unfold sizeB;rw[ok];rfl
 have eG:shG d h l v u x t n (wtL s 0)=false:=by unfold shG;rw[ok];rfl
 have eE:shE d h l v u x t n (wtL s 0)=20:=by unfold shE;rw[ok];rfl
 have eM:shM d h l v u x t n (wtL s 0)=noV:=by unfold shM;rw[eG];rfl
 refine model_walk d h l v u x t n s 0 20 0 (wtL s 0) false 0 0 0 0 0 0 0 0 noV w rfl (fun w=>?_) (fun w=>?_) (fun w ya yc hs=>?_)
 ·have:=refSize_call d h l v u x t n w
  rw[es] at this
  exact this
 ·exact weights_call 0 (by omega) s w
 ·refine (refShape_any d h l v u x t n ⟨ya,0,yc⟩ _ w hs).mono fun e w' hh=>?_
  obtain⟨E,L,N,O,Y,U,D,he,hN,hb⟩:=hh
  rw[eG,eE] at he
  rw[eM] at hN
  exact⟨⟨E,L,N,O,Y,U,D⟩,he,hN.within,hb⟩
end
section
theorem at_law {m:AdV}:InLaw (T:=SL × (Nat→Nat→SL)) (fun t lo hi w=>AdIn lo hi w t.1 t.2 m):=⟨fun h hb=>h.below hb,fun h o hb=>h.only o hb⟩
theorem restN (x:Int)(n:Nat)(hn:0<n):∃ M:Nat,M<n∧(IntKind.u64.wrap x).tmod (n:Int)=(M:Int)∧IntKind.u64.wrap x%(n:Int)=(M:Int):=by
 have b:0≤IntKind.u64.wrap x:=by rw[IntKind.wrap_u64];omega
 generalize IntKind.u64.wrap x=U at *
 refine⟨(U%n).toNat,?_,?_,?_⟩
 ·have h1:=Int.emod_lt_of_pos U (show (0:Int)<n by omega)
  have h2:=Int.emod_nonneg U (show (n:Int)≠0 by omega)
  omega
 ·rw[Int.tmod_eq_emod_of_nonneg b]
  have h2:=Int.emod_nonneg U (show (n:Int)≠0 by omega)
  omega
 ·have h2:=Int.emod_nonneg U (show (n:Int)≠0 by omega)
  omega
theorem adapt_none (rank d h l v u x t n s:Int)(w:World)(hr:adR rank=0) :
  Calls Tryz.prog 20 #[.int .i64 rank,.agg #[.int .i64 d,.int .i64 h,.int .i64 l,.int .i64 v,.int .i64 u,.int .i64 x,.int .i64 t,.int .i64 n],.int .u64 s] w fun e w'=>e=.returned (.agg #[.int .i64 0,.int .i64 0,.slice none 0 0])∧Below w.heap.size w w':=by
 have hb:=bNw (bNw (Below.refl w.heap.size w) (.cells #[.int .i64 d,.int .i64 h,.int .i64 l,.int .i64 v,.int .i64 u,.int .i64 x,.int .i64 t,.int .i64 n] 23)) (.cells #[.int .i64 0,.int .i64 0,.slice none 0 0] 30)
 have qr:Blk 30 ((w.alloc (.cells #[.int .i64 d,.int .i64 h,.int .i64 l,.int .i64 v,.int .i64 u,.int .i64 x,.int .i64 t,.int .i64 n] 23)).alloc (.cells #[.int .i64 0,.int .i64 0,.slice none 0 0] 30)) (w.heap.size+1) #[.int .i64 0,.int .i64 0,.slice none 0 0]:=Blk.new_at 30 (w.alloc _) _ _ (by simp)
 obtain⟨M,hM,(eM:(IntKind.u64.wrap rank).tmod 5=(M:Int)),(eM':IntKind.u64.wrap rank%5=(M:Int))⟩:=restN rank 5 (by decide)
 obtain rfl:M=0:=by unfold adR at hr;omega
 obtain⟨r0,r1,r2⟩:=qr.c3
 obtain⟨f0,f1,f2,-⟩:=qr.o12
 obtain⟨U,eU⟩:∃ U,IntKind.u64.wrap rank=U:=⟨_,rfl⟩
 rw[eU] at eM
 clear eM' hr hM
 go_enter Tryz.func20,Tryz.ntmps20
 go_wp2
 refine bodyPost_ret (v:=.agg #[.int .i64 0,.int .i64 0,.slice none 0 0]) ?_ rfl ⟨rfl,hb⟩
 simp[results,Tryz.results20,go_sem,r0,r1,r2]
theorem adapt_walk (rank d h v u x t n s q1 q2:Int)(ml R S T9:Nat)(zs:List Int)(m:AdV)(w:World)(hR:1≤R∧R≤4)(hr:adR rank=(R:Int))
  (x2:∀ w,(binOp .rem 44 (.int .u64 s) (.int .u64 3)).run Tryz.prog w=.ok (.int .u64 (S:Int)) w) (x3:∀ w,(convert 44 3 (.int .u64 (S:Int))).run Tryz.prog w=.ok (.int .i64 (S:Int)) w)
  (x7:∀ w,(binOp .mul 3 (.int .i64 (ml:Int)) (.int .i64 4)).run Tryz.prog w=.ok (.int .i64 q1) w) (x9:∀ w,(binOp .mul 3 (.int .i64 q1) (.int .i64 (R:Int))).run Tryz.prog w=.ok (.int .i64 q2) w) (x12:∀ w,(binOp .mul 3 (.int .i64 q2) (.int .i64 d)).run Tryz.prog w=.ok (.int .i64 (T9:Int)) w)
  (c40:∀ w,Calls Tryz.prog 40 #[.int .i64 (T9:Int),.int .u64 s] w fun e w'=>(∃ a c,e=.returned (.slice a T9 c)∧IsS w' ⟨a,T9,c⟩ zs)∧Below w.heap.size w w')
  (c42:∀ w ya yc,IsS w ⟨ya,T9,yc⟩ zs→Calls Tryz.prog 42 #[.int .i64 (R:Int),.int .i64 (S:Int),.agg #[.int .i64 d,.int .i64 h,.int .i64 (ml:Int),.int .i64 v,.int .i64 u,.int .i64 x,.int .i64 t,.int .i64 n],.slice ya T9 yc] w fun e w'=>∃ t:SL × (Nat→Nat→SL),e=.returned (.tuple #[.agg #[.int .i64 (R:Int),.int .i64 (S:Int),.slice t.1.a t.1.n t.1.c],.int .i64 0])∧AdIn w.heap.size w'.heap.size w' t.1 t.2 m∧Below w.heap.size w w') :
  Calls Tryz.prog 20 #[.int .i64 rank,.agg #[.int .i64 d,.int .i64 h,.int .i64 (ml:Int),.int .i64 v,.int .i64 u,.int .i64 x,.int .i64 t,.int .i64 n],.int .u64 s] w fun e w'=>∃ t:SL × (Nat→Nat→SL),e=.returned (.agg #[.int .i64 (R:Int),.int .i64 (S:Int),.slice t.1.a t.1.n t.1.c])∧NewA w.heap.size w' t.1 t.2 m∧Below w.heap.size w w':=by
 have hb:=bNw (bNw (Below.refl w.heap.size w) (.cells #[.int .i64 d,.int .i64 h,.int .i64 (ml:Int),.int .i64 v,.int .i64 u,.int .i64 x,.int .i64 t,.int .i64 n] 23)) (.cells #[.int .i64 0,.int .i64 0,.slice none 0 0] 30)
 have qc:Blk 23 ((w.alloc (.cells #[.int .i64 d,.int .i64 h,.int .i64 (ml:Int),.int .i64 v,.int .i64 u,.int .i64 x,.int .i64 t,.int .i64 n] 23)).alloc (.cells #[.int .i64 0,.int .i64 0,.slice none 0 0] 30)) w.heap.size #[.int .i64 d,.int .i64 h,.int .i64 (ml:Int),.int .i64 v,.int .i64 u,.int .i64 x,.int .i64 t,.int .i64 n]:=(Blk.new 23 w _).kept (bNw (Below.refl _ _) _)
 have qr:Blk 30 ((w.alloc (.cells #[.int .i64 d,.int .i64 h,.int .i64 (ml:Int),.int .i64 v,.int .i64 u,.int .i64 x,.int .i64 t,.int .i64 n] 23)).alloc (.cells #[.int .i64 0,.int .i64 0,.slice none 0 0] 30)) (w.heap.size+1) #[.int .i64 0,.int .i64 0,.slice none 0 0]:=Blk.new_at 30 (w.alloc _) _ _ (by simp)
 have hz2:((w.alloc (.cells #[.int .i64 d,.int .i64 h,.int .i64 (ml:Int),.int .i64 v,.int .i64 u,.int .i64 x,.int .i64 t,.int .i64 n] 23)).alloc (.cells #[.int .i64 0,.int .i64 0,.slice none 0 0] 30)).heap.size=w.heap.size+1+1:=by simp
 obtain⟨M,hM,(eM:(IntKind.u64.wrap rank).tmod 5=(M:Int)),(eM':IntKind.u64.wrap rank%5=(M:Int))⟩:=restN rank 5 (by decide)
 obtain rfl:M=R:=by unfold adR at hr;omega
 have hne:((M:Int)==0)=false:=by simp;omega
 obtain⟨U,eU⟩:∃ U,IntKind.u64.wrap rank=U:=⟨_,rfl⟩
 rw[eU] at eM
 clear eM' hr hM
 go_enter Tryz.func20,Tryz.ntmps20
 go_wp2
 refine ad4_region (T:=SL × (Nat→Nat→SL)) (V:=fun t=>.agg #[.int .i64 (M:Int),.int .i64 (S:Int),.slice t.1.a t.1.n t.1.c]) (cs:=fun t=>#[.int .i64 (M:Int),.int .i64 (S:Int),.slice t.1.a t.1.n t.1.c]) (I:=fun t lo hi w=>AdIn lo hi w t.1 t.2 m) at_law d h (ml:Int) v u x t n (M:Int) (S:Int) s q1 q2 (T9:Int) T9 w.heap.size zs (0) #[.int .i64 0,.int .i64 0,.slice none 0 0] (by kernel_rfl) rfl ⟨_,rfl,rfl,rfl,rfl,by kernel_rfl⟩ ⟨_,rfl,rfl,rfl,rfl,by kernel_rfl⟩ ⟨_,rfl,rfl,rfl,rfl,by kernel_rfl⟩ ⟨_,rfl,rfl,rfl,rfl,by kernel_rfl⟩ ⟨_,rfl,rfl,rfl,rfl,by kernel_rfl⟩ ⟨_,rfl,rfl,rfl,rfl,by kernel_rfl⟩ ⟨_,rfl,rfl,rfl,rfl,by kernel_rfl⟩ ⟨_,rfl,rfl,rfl,rfl,by kernel_rfl⟩ ⟨_,rfl,rfl,rfl,rfl,by kernel_rfl⟩ ⟨_,rfl,rfl,rfl,rfl,by kernel_rfl⟩ ⟨_,rfl,rfl,rfl,rfl,by kernel_rfl⟩ ⟨_,rfl,rfl,rfl,rfl,by kernel_rfl⟩ ⟨_,rfl,rfl,rfl,rfl,by kernel_rfl⟩ ⟨_,rfl,rfl,rfl,rfl,by kernel_rfl⟩ ⟨_,rfl,rfl,rfl,rfl,by kernel_rfl⟩ ⟨_,rfl,rfl,rfl,rfl,by kernel_rfl⟩ ⟨_,rfl,rfl,rfl,rfl,by kernel_rfl⟩ ⟨_,rfl,rfl,rfl,rfl,by kernel_rfl⟩ ⟨_,rfl,rfl,rfl,rfl,by kernel_rfl⟩ ⟨_,rfl,rfl,rfl,rfl,by kernel_rfl⟩ ⟨_,rfl,rfl,rfl,rfl,by kernel_rfl⟩ ⟨_,rfl,rfl,rfl,rfl,by kernel_rfl⟩ x2 x3 (fun w hw=>run_load23y (qc.kept hw)) (fun w=>by go_simp) (fun w hw=>by have y2:=(qc.kept hw).cell 2 rfl;go_simp) x7 x9 (fun w=>by go_simp) (fun w hw=>by have y2:=(qc.kept hw).cell 0 rfl;go_simp) x12 (fun w hw=>c40 w) (fun w ya yc hw hz=>c42 w ya yc hz) rfl rfl rfl run_alloc30 (fun w b t q=>run_store30 q ⟨0,0,0,0,0,0,0,0,noV,(M:Int),(S:Int),m⟩ t.1) (Nat.le_of_ble_eq_true rfl) ?_
 intro a W9 b9 t9 lo9 hi9 hs hd hkp eA eE hb9 gb9 gl9 gh9 hI9 q9
 have ep:=fPu [17,18,19,20,21,22,23,24,25,26,27,28,29,30,31,32,16,33,34,7,8] hs hd (fun s h=>hkp s (fun i hi e=>h (by
  rcases (show i=0∨i=1∨i=2∨i=3∨i=4∨i=5∨i=6∨i=7∨i=8∨i=9∨i=10∨i=11∨i=12∨i=13∨i=14∨i=15∨i=16∨i=17∨i=18∨i=19∨i=20∨i=21 by omega) with rfl|rfl|rfl|rfl|rfl|rfl|rfl|rfl|rfl|rfl|rfl|rfl|rfl|rfl|rfl|rfl|rfl|rfl|rfl|rfl|rfl|rfl<;>first|(simp only[ad4D,Option.some.injEq] at e;subst e;simp)|(simp only[ad4D] at e;cases e))))
 simp only[List.foldl] at ep
 rw[eA,eE] at ep
 clear hs hd hkp eA eE
 generalize a.tmps.getD 17 undef=g17,a.tmps.getD 18 undef=g18,a.tmps.getD 19 undef=g19,a.tmps.getD 20 undef=g20,a.tmps.getD 21 undef=g21,a.tmps.getD 22 undef=g22,a.tmps.getD 23 undef=g23,a.tmps.getD 24 undef=g24,a.tmps.getD 25 undef=g25,a.tmps.getD 26 undef=g26,a.tmps.getD 27 undef=g27,a.tmps.getD 28 undef=g28,a.tmps.getD 29 undef=g29,a.tmps.getD 30 undef=g30,a.tmps.getD 31 undef=g31,a.tmps.getD 32 undef=g32,a.tmps.getD 16 undef=g16,a.tmps.getD 33 undef=g33,a.tmps.getD 34 undef=g34 at ep
 simp only[Act.put,List.setIfInBounds_toArray,List.set_cons_succ,List.set_cons_zero] at ep
 subst ep
 replace qr:=qr.kept hb9
 replace hb:=bTn hb hb9
 obtain⟨a0,a1,a2⟩:=q9.c3
 obtain⟨r0,r1,r2⟩:=qr.c3
 obtain⟨f0,f1,f2,-⟩:=qr.o12
 clear x2 x3 x7 x9 x12 c40 c42 qc hb9 eM eU
 have HI:=hdn hI9
 clear hI9
 go_wp2
 obtain⟨W6,eW6,q6,only6,hz6⟩:=set3 qr (.int .i64 (M:Int)) (.int .i64 (S:Int)) (.slice t9.1.a t9.1.n t9.1.c)
 rw[eW6]
 have m6:=(HI.out.only only6 (.inl (by omega))).new (g:=w.heap.size) (by omega)
 have b6:Below w.heap.size w W6:=Only.below hb (by omega) hb.size only6
 refine bodyPost_ret (v:=.agg #[.int .i64 (M:Int),.int .i64 (S:Int),.slice t9.1.a t9.1.n t9.1.c]) ?_ rfl ⟨t9,rfl,m6,b6⟩
 obtain⟨y0,y1,y2⟩:=q6.c3
 simp[results,Tryz.results20,go_sem,y0,y1,y2]
theorem adapt_call (rank d h l v u x t n s:Int)(ok:okB d h l v u x t n=true)(hs:(Lit.int .u64 s).wf=true)(w:World) :
  Calls Tryz.prog 20 #[.int .i64 rank,.agg #[.int .i64 d,.int .i64 h,.int .i64 l,.int .i64 v,.int .i64 u,.int .i64 x,.int .i64 t,.int .i64 n],.int .u64 s] w fun e w'=>∃ t':SL × (Nat→Nat→SL),e=.returned (.agg #[.int .i64 (adR rank),.int .i64 (adS rank s),.slice t'.1.a t'.1.n t'.1.c])∧NewA w.heap.size w' t'.1 t'.2 (adV rank d l s)∧Below w.heap.size w w':=by
 by_cases hr:adR rank=0
 ·refine (adapt_none rank d h l v u x t n s w hr).mono fun e w' hh=>?_
  obtain⟨rfl,hb⟩:=hh
  refine⟨(⟨none,0,0⟩,fun _ _=>SL.nought),?_,?_,hb⟩
  ·unfold adS
   rw[if_pos hr,hr]
  ·unfold adV
   rw[if_pos hr]
   exact NewA.none_ _ _ _
 ·have r:=right_of ok
  have d0:=r.d0
  have d1:=r.d1
  have l0:=r.l0
  have l1:=r.l1
  have hb:=adR_bounds rank
  have s0:0≤s∧s≤18446744073709551615:=by simpa [Lit.wf,IntKind.min,IntKind.max,IntKind.signed,IntKind.bits] using hs
  obtain⟨R,eR⟩:∃ R:Nat,adR rank=R:=⟨(adR rank).toNat,by omega⟩
  obtain⟨ml,rfl⟩:∃ ml:Nat,l=ml:=⟨l.toNat,by omega⟩
  obtain⟨D,rfl⟩:∃ D:Nat,d=D:=⟨d.toNat,by omega⟩
  obtain⟨S,eS⟩:∃ S:Nat,s%3=S:=⟨(s%3).toNat,by omega⟩
  have eS':s.tmod 3=(S:Int):=by rw[Int.tmod_eq_emod_of_nonneg s0.1];exact eS
  have e1:adS rank s=(S:Int):=by unfold adS;rw[if_neg hr];exact eS
  have q2:(ml:Int)*4*R=((ml*4*R:Nat):Int):=by rw[Int.natCast_mul,Int.natCast_mul];rfl
  have q3:((ml*4*R:Nat):Int)*D=((4*ml*(R*D):Nat):Int):=by rw[←Int.natCast_mul,Nat.mul_comm ml 4,Nat.mul_assoc]
  have b2:ml*4*R≤32:=by
   have:ml*4*R≤8*4:=Nat.mul_le_mul (by omega) (by omega)
   omega
  have b3:R*D≤32:=by
   have:R*D≤4*8:=Nat.mul_le_mul (by omega) (by omega)
   omega
  have b4:4*ml*(R*D)≤256:=by
   have:4*ml*(R*D)≤8*32:=Nat.mul_le_mul (by omega) b3
   omega
  have b5:0<4*ml*(R*D):=Nat.mul_pos (by omega) (Nat.mul_pos (by omega) (by omega))
  have e2:adV rank D ml s=grshapeV ml (R*D) (wtL s (4*ml*(R*D))):=by
   have:=(nat_prod (l:=(ml:Int)) (R:=(R:Int)) (d:=(D:Int)) (by omega) (by omega) (by omega)).1
   have e:((R:Int)*D).toNat=R*D:=by rw[←Int.natCast_mul];exact Int.toNat_natCast _
   unfold adV
   rw[if_neg hr,eR,this,e]
   rfl
  have okA':okA (R:Int) (S:Int) D h ml v u x t n=true:=by
   unfold okA
   rw[ok]
   simp only[Bool.true_and,Bool.and_eq_true,decide_eq_true_eq]
   omega
  rw[e2,e1,eR]
  have q2':((ml*4*R:Nat):Int)≤32:=by omega
  refine adapt_walk rank D h v u x t n s ((ml:Int)*4) ((ml*4*R:Nat):Int) ml R S (4*ml*(R*D)) (wtL s (4*ml*(R*D))) (grshapeV ml (R*D) (wtL s (4*ml*(R*D)))) w ⟨by omega,by omega⟩ eR (fun w=>?_) (fun w=>?_) (fun w=>?_) (fun w=>?_) (fun w=>?_) (fun w=>weights_call _ (by omega) s w) (fun w ya yc hz=>?_)
  ·clear q2 q3 e2 okA' ok eS
   go_simp
  ·have hw:IntKind.i64.wrap (S:Int)=(S:Int):=by rw[IntKind.wrap_i64];omega
   clear q2 q3 e2 okA' ok eS eS'
   go_simp
  ·have hw:IntKind.i64.wrap ((ml:Int)*4)=(ml:Int)*4:=by rw[IntKind.wrap_i64];omega
   clear q2 q3 e2 okA' ok eS eS'
   go_simp
  ·have hw:IntKind.i64.wrap ((ml:Int)*4*R)=((ml*4*R:Nat):Int):=by rw[q2,IntKind.wrap_i64];omega
   clear q2 q3 e2 okA' ok eS eS'
   generalize ((ml*4*R:Nat):Int)=Z at *
   generalize (ml:Int)*4=Z2 at *
   go_simp
  ·have hw:IntKind.i64.wrap (((ml*4*R:Nat):Int)*D)=((4*ml*(R*D):Nat):Int):=by rw[q3,IntKind.wrap_i64];omega
   clear q2 q3 e2 okA' ok eS eS'
   generalize ((4*ml*(R*D):Nat):Int)=Z3 at *
   generalize ((ml*4*R:Nat):Int)=Z at *
   go_simp
  ·obtain⟨x0,rfl⟩:=hz.reads.some_ b5
   refine (refShape_yes (R:Int) (S:Int) D h v u x t n x0 ml (R*D) (4*ml*(R*D)) yc _ w hz.reads hz.cap rfl (by omega) (by omega) (by omega) (by rw[←Int.natCast_mul]) ((ml:Int)*4) rfl (by rw[Int.natCast_mul (4*ml),Int.natCast_mul 4 ml,Int.mul_comm (ml:Int) 4];rfl) (fun w=>by have:=refRanges_call (R:Int) (S:Int) D h ml v u x t n w;rw[okA'] at this;exact this)).mono fun e w' hh=>?_
   obtain⟨L,Y,he,hN,hb⟩:=hh
   exact⟨(L,Y),he,hN.within,hb⟩
end
section
structure TM (B:Nat) (w:World) (E L N O:SL) (Y U D:Nat→Nat→SL) (m:ModV):Prop where
 l:TL B w (.slice L.a L.n L.c) m.ln Y U D m
 e:TS B w E m.e
 n:TS B w N m.nm
 o:TS B w O m.o
def KeepsF (B:Nat)(t:TypeId)(w w':World):Prop:=∀ (b:Nat) (cur:Array Value) (fz:Nat × Nat),B≤b→w.heap[b]? = some (Obj.cells cur t fz)→w'.heap[b]? = some (Obj.cells cur t fz)
theorem TS.stepF {B:Nat}{w w':World}{s:SL}{zs:List Int}(h:TS B w s zs)(k:KeepsF B 73 w w'):TS B w' s zs:=by
 refine⟨⟨⟨h.is.reads.len,h.is.reads.max,h.is.reads.wf,h.is.reads.some_,fun x hx i hi=>?_⟩,h.is.nil,h.is.cap⟩,fun x hx=>?_⟩
 ·obtain⟨hB,cur,fz,e⟩:=h.blk x hx
  have c:=h.is.reads.cell x hx i hi
  have eb:(x.add i).block=x.block:=by unfold Addr.add;split<;>rfl
  have:=World.cell?_of_block (w:=w) (w':=w') (a:=x.add i) (by rw[eb,e];exact k _ _ _ hB e)
  rw[this]
  exact c
 ·obtain⟨h1,cur,fz,e⟩:=h.blk x hx
  exact⟨h1,cur,fz,k _ _ _ h1 e⟩
theorem KeepsF.own {t:TypeId}{w w':World}{B n sz:Nat}{v:Value}{xs:List Value}(h:KeepsF B t w w')(ho:w.ownsRow B t sz v n xs):w'.ownsRow B t sz v n xs:=by
 refine⟨ho.1,?_⟩
 rcases ho.2 with h2|⟨g,cap,cur,hv,hg,hh,r⟩
 ·exact .inl h2
 ·exact .inr ⟨g,cap,cur,hv,hg,h g cur (0,0) hg hh,r⟩
theorem TM.stepF {B:Nat}{w w':World}{E L N O:SL}{Y U D:Nat→Nat→SL}{m:ModV}(h:TM B w E L N O Y U D m)(k:∀ t,KeepsF B t w w'):TM B w' E L N O Y U D m :=
 ⟨⟨(k 65).own h.l.own,fun i hi=>⟨fun j hj=>((h.l.lay i hi).f j hj).stepF (k 73),⟨(k 24).own (h.l.lay i hi).u.own,fun j hj=>((h.l.lay i hi).u.row j hj).stepF (k 73)⟩,⟨(k 24).own (h.l.lay i hi).d.own,fun j hj=>((h.l.lay i hi).d.row j hj).stepF (k 73)⟩⟩⟩,h.e.stepF (k 73),h.n.stepF (k 73),h.o.stepF (k 73)⟩
def TMin (lo hi:Nat)(w:World)(t:MT)(m:ModV):Prop:=hi≤w.heap.size∧∀ w',(∀ b,lo≤b→b<hi→w'.heap[b]? = w.heap[b]?)→TM lo w' t.E t.L t.N t.O t.Y t.U t.D m
theorem TMin.of {lo:Nat}{w:World}{t:MT}{m:ModV}(h:TM lo w t.E t.L t.N t.O t.Y t.U t.D m):TMin lo w.heap.size w t m :=
 ⟨Nat.le_refl _,fun w' hc=>h.stepF fun ty b cur fz hb e=>(hc b hb (Array.getElem?_eq_some_iff.1 e).1).trans e⟩
theorem TMin.at {lo hi:Nat}{w:World}{t:MT}{m:ModV}(h:TMin lo hi w t m):TM lo w t.E t.L t.N t.O t.Y t.U t.D m:=h.2 w fun _ _ _=>rfl
theorem tm_law {m : ModV} : InLaw (T := MT) (fun t lo hi w => TMin lo hi w t m) :=
  ⟨fun h hb => ⟨Nat.le_trans h.1 hb.size, fun w'' hc => h.2 w'' fun b h1 h2 => (hc b h1 h2).trans (hb.block b (Nat.lt_of_lt_of_le h2 h.1))⟩,
   fun {t lo hi b w w'} h o hb => ⟨Nat.le_trans h.1 o.size, fun w'' hc => h.2 w'' fun b' h1 h2 => by
    refine (hc b' h1 h2).trans (o.block b' (Nat.lt_of_lt_of_le h2 h.1) fun e => ?_)
    have e' : b' = b := by simpa using e
    omega⟩⟩
end
section
theorem AdAt.none_ (w:World)(Y:Nat→Nat→SL):AdAt w noS Y noA:=⟨rfl,(fun h=>by cases h),fun _=>rfl,Nat.le_refl _,(fun x hx=>by cases hx),(fun i hi=>by cases hi)⟩
theorem z_step (E L N O:SL)(Y U D:Nat→Nat→SL)(w:World)(hM:ModAt w E L N O Y U D zV) :
  Calls Tryz.prog 11 #[.agg #[.int .i64 2,.int .i64 1,.int .i64 1,.int .i64 2,.int .i64 1,.int .i64 0,.int .i64 0,.int .i64 0,.slice E.a E.n E.c,.slice L.a L.n L.c,.slice N.a N.n N.c,.slice O.a O.n O.c],.agg #[.int .i64 0,.int .i64 0,.slice none 0 0],.slice none 0 0,.int .i64 0,.int .i64 1] w fun e w'=>(∃ a c b k,e=.returned (.tuple #[.slice a 4 c,.slice b 2 k,.int .i64 0])∧Reads .i64 w' a 4 [0,0,0,0]∧Reads .i64 w' b 2 [0,0])∧Below w.heap.size w w':=by
 have ok:=badE_ok z_bad
 have key:=Step_ok zM E L N O Y U D noS (fun _ _=>SL.nought) w hM (AdAt.none_ w _) none 0 0 0 1 (fun w' a m c b j k=>m=4∧j=2∧Reads .i64 w' a 4 [0,0,0,0]∧Reads .i64 w' b 2 [0,0]) z_bad (fun W hb=>(mdstep_call zM E L N O Y U D noS (fun _ _=>SL.nought) ok.fit ok.ok (fun h=>absurd rfl h) 0 (by omega) 1 (by decide) W (hM.below hb) (AdAt.none_ W _) none 0 0 (fun _=>none) (fun _=>0) (fun _=>[]) (Grid.none_ _ _ _ _ _) (fun r hr=>by omega) (by decide) (fun r hr=>by omega)).mono fun e w' h=>by
  obtain⟨⟨a,c,b,k,rfl,h1,h2,h3,h4,h5⟩,h6⟩:=h
  rw[show ((1:Nat))=1 from rfl] at h1
  have h1':=h1
  rw[z_row] at h1'
  have h3':=h3
  rw[z_out] at h3'
  exact⟨⟨a,_,c,b,_,k,rfl,rfl,rfl,h1',h3'⟩,h6⟩)
 refine key.mono fun e w' h=>?_
 obtain⟨⟨a,m,c,b,j,k,rfl,rfl,rfl,h1,h2⟩,h3⟩:=h
 exact⟨⟨a,c,b,k,rfl,h1,h2⟩,h3⟩
theorem z_score (E L N O:SL)(Y U D:Nat→Nat→SL)(w:World)(hM:ModAt w E L N O Y U D zV)(xa:Option Addr)(xc:Nat)(hx:Reads .i64 w xa 2 [0,0]) :
  Calls Tryz.prog 23 #[.agg #[.int .i64 2,.int .i64 1,.int .i64 1,.int .i64 2,.int .i64 1,.int .i64 0,.int .i64 0,.int .i64 0,.slice E.a E.n E.c,.slice L.a L.n L.c,.slice N.a N.n N.c,.slice O.a O.n O.c],.slice xa 2 xc] w fun e w'=>(∃ a c,e=.returned (.tuple #[.slice a 2 c,.int .i64 0])∧Reads .i64 w' a 2 [0,0])∧Below w.heap.size w w':=by
 have ok:=badE_ok z_bad
 have hO:O.n=4:=hM.o.reads.len.symm.trans (by decide +kernel)
 have hc:checkB zM.d zM.h zM.l zM.v zM.u zM.x zM.t zM.n zM.m=0:=by decide +kernel
 have key:=Scores_yes zM E L N O Y U D hc ok.fit w hM xa 2 xc [0,0] hx (by rw[hO];decide +kernel)
 refine key.mono fun e w' h=>?_
 rw[hO] at h
 obtain⟨⟨a,c,rfl,h1⟩,h2⟩:=h
 have e9:matL zM.m.o [0,0]=[0,0]:=by decide +kernel
 rw[e9] at h1
 exact⟨⟨a,c,rfl,h1⟩,h2⟩
theorem sm_run3 (E L N O:SL)(Y U D:Nat→Nat→SL)(w:World)(hM:ModAt w E L N O Y U D smM.m)(ta:Option Addr)(tc:Nat)(ht:Reads .i64 w ta 3 [0,1,1]) :
  Calls Tryz.prog 21 #[.agg #[.int .i64 2,.int .i64 1,.int .i64 1,.int .i64 2,.int .i64 1,.int .i64 0,.int .i64 0,.int .i64 0,.slice E.a E.n E.c,.slice L.a L.n L.c,.slice N.a N.n N.c,.slice O.a O.n O.c],.agg #[.int .i64 0,.int .i64 0,.slice none 0 0],.slice ta 3 tc] w fun e w'=>(∃ u k u2 k2 A C,e=.returned (.tuple #[.slice u 3 k,.slice u2 3 k2,.int .i64 0])∧Grid w' u 3 A C (rowF smM (tokF [0,1,1])))∧Below w.heap.size w w':=by
 refine (mrun_yes smM E L N O Y U D noS (fun _ _=>SL.nought) sm_bad w hM (AdAt.none_ w _) ta 3 tc [0,1,1] ht sm_yes).mono fun e w' h=>?_
 obtain⟨⟨u,k,u2,k2,A,A2,C,C2,h0,h1,-⟩,h2⟩:=h
 exact⟨⟨u,k,u2,k2,A,C,h0,h1⟩,h2⟩
theorem sm_run1 (E L N O:SL)(Y U D:Nat→Nat→SL)(w:World)(hM:ModAt w E L N O Y U D smM.m)(ta:Option Addr)(tc:Nat)(ht:Reads .i64 w ta 1 [2]) :
  Calls Tryz.prog 21 #[.agg #[.int .i64 2,.int .i64 1,.int .i64 1,.int .i64 2,.int .i64 1,.int .i64 0,.int .i64 0,.int .i64 0,.slice E.a E.n E.c,.slice L.a L.n L.c,.slice N.a N.n N.c,.slice O.a O.n O.c],.agg #[.int .i64 0,.int .i64 0,.slice none 0 0],.slice ta 1 tc] w fun e w'=>e=.returned (.tuple #[.slice none 0 0,.slice none 0 0,.int .i64 20])∧Below w.heap.size w w' :=
 mrun_no smM E L N O Y U D noS (fun _ _=>SL.nought) sm_bad w hM (AdAt.none_ w _) ta 1 tc [2] ht sm_no
end
section
theorem blk_row {t:TypeId}{W:World}{b:Nat}(q:Blk t W b #[.int .i8 64,.int .i8 64]):IsS W ⟨some ⟨b,0,none⟩,2,2⟩ [64,64] :=
 ⟨⟨rfl,(by show (2:Nat)≤_;omega),fun i=>by
  rcases i with _|_|i
  ·decide
  ·decide
  ·exact wf_nought _,fun _=>⟨_,rfl⟩,fun x hx i hi=>by
  obtain rfl:=Option.some.inj hx
  rcases i with _|_|i
  ·exact q.cell 0 rfl
  ·exact q.cell 1 rfl
  ·have hi':i+1+1<2:=hi
   omega⟩,(fun h=>by cases h),Nat.le_refl _⟩
theorem add_at (g j:Nat):(⟨g,0,none⟩:Addr).add j=⟨g,j,none⟩:=by cases j<;>simp[Addr.add]
theorem remade {W:World}{b lo:Nat}(t:MT)(h:TM lo W t.E t.L t.N t.O t.Y t.U t.D zeroV)(q:Blk 27 W b #[.int .i64 2,.int .i64 1,.int .i64 1,.int .i64 2,.int .i64 1,.int .i64 0,.int .i64 0,.int .i64 0,.slice t.E.a t.E.n t.E.c,.slice t.L.a t.L.n t.L.c,.slice t.N.a t.N.n t.N.c,.slice t.O.a t.O.n t.O.c]) :
  ∃ (g cap:Nat) (cur:Array Value),t.L=⟨some ⟨g,0,none⟩,1,cap⟩∧lo≤g∧Blk 65 ((W.alloc (.cells #[.int .i8 64,.int .i8 64] 73)).alloc (.cells #[.int .i8 64,.int .i8 64] 73)) g cur∧Blk 65 (((W.alloc (.cells #[.int .i8 64,.int .i8 64] 73)).alloc (.cells #[.int .i8 64,.int .i8 64] 73)).setCell ⟨b,10,none⟩ (.slice (some ⟨W.heap.size,0,none⟩) 2 2)) g cur∧cur[0]? = some (t.Y 0 0).v∧Blk 27 ((W.alloc (.cells #[.int .i8 64,.int .i8 64] 73)).alloc (.cells #[.int .i8 64,.int .i8 64] 73)) b #[.int .i64 2,.int .i64 1,.int .i64 1,.int .i64 2,.int .i64 1,.int .i64 0,.int .i64 0,.int .i64 0,.slice t.E.a t.E.n t.E.c,.slice t.L.a t.L.n t.L.c,.slice t.N.a t.N.n t.N.c,.slice t.O.a t.O.n t.O.c]∧Only g (((W.alloc (.cells #[.int .i8 64,.int .i8 64] 73)).alloc (.cells #[.int .i8 64,.int .i8 64] 73)).setCell ⟨b,10,none⟩ (.slice (some ⟨W.heap.size,0,none⟩) 2 2)) ((((W.alloc (.cells #[.int .i8 64,.int .i8 64] 73)).alloc (.cells #[.int .i8 64,.int .i8 64] 73)).setCell ⟨b,10,none⟩ (.slice (some ⟨W.heap.size,0,none⟩) 2 2)).setCell ⟨g,0,none⟩ (.slice (some ⟨W.heap.size+1,0,none⟩) 2 2)) ∧
   Blk 27 ((((W.alloc (.cells #[.int .i8 64,.int .i8 64] 73)).alloc (.cells #[.int .i8 64,.int .i8 64] 73)).setCell ⟨b,10,none⟩ (.slice (some ⟨W.heap.size,0,none⟩) 2 2)).setCell ⟨g,0,none⟩ (.slice (some ⟨W.heap.size+1,0,none⟩) 2 2)) b #[.int .i64 2,.int .i64 1,.int .i64 1,.int .i64 2,.int .i64 1,.int .i64 0,.int .i64 0,.int .i64 0,.slice t.E.a t.E.n t.E.c,.slice t.L.a t.L.n t.L.c,.slice (some ⟨W.heap.size,0,none⟩) 2 2,.slice t.O.a t.O.n t.O.c]∧ModAt ((((W.alloc (.cells #[.int .i8 64,.int .i8 64] 73)).alloc (.cells #[.int .i8 64,.int .i8 64] 73)).setCell ⟨b,10,none⟩ (.slice (some ⟨W.heap.size,0,none⟩) 2 2)).setCell ⟨g,0,none⟩ (.slice (some ⟨W.heap.size+1,0,none⟩) 2 2)) t.E t.L ⟨some ⟨W.heap.size,0,none⟩,2,2⟩ t.O (fun i j=>if i=0∧j=0 then ⟨some ⟨W.heap.size+1,0,none⟩,2,2⟩ else t.Y i j) t.U t.D zV:=by
 have e1:zeroV.ln=1:=by decide +kernel
 have tl:=h.l
 have ho:=tl.own
 rw[e1] at ho
 rcases ho.2 with⟨e,e'⟩|⟨g,cap,cur,e,hg,hh,hcap,hm,hc1,hc2⟩
 ·cases e'
 have eL:t.L=⟨some ⟨g,0,none⟩,1,cap⟩:=SL.v_inj e
 have qg:Blk 65 W g cur:=hh
 have b2:Below W.heap.size W ((W.alloc (.cells #[.int .i8 64,.int .i8 64] 73)).alloc (.cells #[.int .i8 64,.int .i8 64] 73)):=bNw (bNw (Below.refl _ _) _) _
 have qg2:=qg.kept b2
 have q2:=q.kept b2
 have hne:b≠g:=q.apart qg (by decide)
 have on3:Only b ((W.alloc (.cells #[.int .i8 64,.int .i8 64] 73)).alloc (.cells #[.int .i8 64,.int .i8 64] 73)) (((W.alloc (.cells #[.int .i8 64,.int .i8 64] 73)).alloc (.cells #[.int .i8 64,.int .i8 64] 73)).setCell ⟨b,10,none⟩ (.slice (some ⟨W.heap.size,0,none⟩) 2 2)):=Only.set b 10 _ _
 have qg3:=qg2.only on3 (Ne.symm hne)
 have q3:Blk 27 (((W.alloc (.cells #[.int .i8 64,.int .i8 64] 73)).alloc (.cells #[.int .i8 64,.int .i8 64] 73)).setCell ⟨b,10,none⟩ (.slice (some ⟨W.heap.size,0,none⟩) 2 2)) b #[.int .i64 2,.int .i64 1,.int .i64 1,.int .i64 2,.int .i64 1,.int .i64 0,.int .i64 0,.int .i64 0,.slice t.E.a t.E.n t.E.c,.slice t.L.a t.L.n t.L.c,.slice (some ⟨W.heap.size,0,none⟩) 2 2,.slice t.O.a t.O.n t.O.c]:=q2.set 10 _
 have on4:Only g (((W.alloc (.cells #[.int .i8 64,.int .i8 64] 73)).alloc (.cells #[.int .i8 64,.int .i8 64] 73)).setCell ⟨b,10,none⟩ (.slice (some ⟨W.heap.size,0,none⟩) 2 2)) ((((W.alloc (.cells #[.int .i8 64,.int .i8 64] 73)).alloc (.cells #[.int .i8 64,.int .i8 64] 73)).setCell ⟨b,10,none⟩ (.slice (some ⟨W.heap.size,0,none⟩) 2 2)).setCell ⟨g,0,none⟩ (.slice (some ⟨W.heap.size+1,0,none⟩) 2 2)):=Only.set g 0 _ _
 have q4:=q3.only on4 hne
 have qg4:=qg3.set 0 (.slice (some ⟨W.heap.size+1,0,none⟩) 2 2)
 have K:∀ ty,ty≠27→ty≠65→Keeps ty W ((((W.alloc (.cells #[.int .i8 64,.int .i8 64] 73)).alloc (.cells #[.int .i8 64,.int .i8 64] 73)).setCell ⟨b,10,none⟩ (.slice (some ⟨W.heap.size,0,none⟩) 2 2)).setCell ⟨g,0,none⟩ (.slice (some ⟨W.heap.size+1,0,none⟩) 2 2)):=fun ty h1 h2=>((Keeps.of_below b2).trans (Keeps.of_only on3 q2 h1)).trans (Keeps.of_only on4 qg3 h2)
 have K73:=K 73 (by decide) (by decide)
 have K24:=K 24 (by decide) (by decide)
 have n1:Blk 73 ((((W.alloc (.cells #[.int .i8 64,.int .i8 64] 73)).alloc (.cells #[.int .i8 64,.int .i8 64] 73)).setCell ⟨b,10,none⟩ (.slice (some ⟨W.heap.size,0,none⟩) 2 2)).setCell ⟨g,0,none⟩ (.slice (some ⟨W.heap.size+1,0,none⟩) 2 2)) W.heap.size #[.int .i8 64,.int .i8 64]:=(((Keeps.of_below (bNw (Below.refl _ _) _)).trans (Keeps.of_only on3 q2 (by decide))).trans (Keeps.of_only on4 qg3 (by decide))).blk (Blk.new 73 W _)
 have n2:Blk 73 ((((W.alloc (.cells #[.int .i8 64,.int .i8 64] 73)).alloc (.cells #[.int .i8 64,.int .i8 64] 73)).setCell ⟨b,10,none⟩ (.slice (some ⟨W.heap.size,0,none⟩) 2 2)).setCell ⟨g,0,none⟩ (.slice (some ⟨W.heap.size+1,0,none⟩) 2 2)) (W.heap.size+1) #[.int .i8 64,.int .i8 64]:=((Keeps.of_only on3 q2 (by decide)).trans (Keeps.of_only on4 qg3 (by decide))).blk (Blk.new_at 73 (W.alloc _) _ _ (by simp))
 have ocell:∀ j,j<9→cur[j]? = some (t.Y 0 j).v:=fun j hj=>by
  have c:=(ho.cells (g:=g) (by rw[e];rfl) (0*9+j) (t.Y 0 j).v (cells9_at t.Y 1 0 j (by omega) hj))
  rw[add_at,show 0*9+j=j by omega] at c
  have c':W.cell? ⟨g,j,none⟩=some (t.Y 0 j).v:=c
  unfold World.cell? at c'
  rw[show W.heap[g]? = some (.cells cur 65 (0,0)) from hh] at c'
  simpa using c'
 refine⟨g,cap,cur,eL,hg,qg2,qg3,ocell 0 (by omega),q2,on4,q4,?_⟩
 have l0:=tl.lay 0 (by rw[e1];omega)
 have ly:=l0.step K73 K24
 have lyn:IsY ((((W.alloc (.cells #[.int .i8 64,.int .i8 64] 73)).alloc (.cells #[.int .i8 64,.int .i8 64] 73)).setCell ⟨b,10,none⟩ (.slice (some ⟨W.heap.size,0,none⟩) 2 2)).setCell ⟨g,0,none⟩ (.slice (some ⟨W.heap.size+1,0,none⟩) 2 2)) (t.Y 0) (t.U 0) (t.D 0) (zeroV.f 0) (zeroV.un 0) (zeroV.dn 0) (zeroV.u 0) (zeroV.d 0):=ly.new _ (fun _ _ hp _=>hp)
 refine⟨(h.e.step K73).is,blk_row n1,(h.o.step K73).is,?_,?_,?_,?_,?_,?_⟩
 ·rw[eL];rfl
 ·intro _;exact⟨⟨g,0,none⟩,by rw[eL]⟩
 ·intro hx;rw[eL] at hx;cases hx
 ·rw[eL];exact hcap
 ·intro x hx i hi j hj
  rw[eL] at hx
  obtain rfl:=Option.some.inj hx
  obtain rfl:i=0:=by have hi':i<1:=hi;omega
  show ((((W.alloc (.cells #[.int .i8 64,.int .i8 64] 73)).alloc (.cells #[.int .i8 64,.int .i8 64] 73)).setCell ⟨b,10,none⟩ (.slice (some ⟨W.heap.size,0,none⟩) 2 2)).setCell ⟨g,0,none⟩ (.slice (some ⟨W.heap.size+1,0,none⟩) 2 2)).cell? (((⟨g,0,none⟩:Addr).add (0*9)).add j)=_
  rw[add_at,show 0*9=0 from rfl,add_at]
  rcases j with _|j
  ·refine qg4.cell 0 ?_
   rw[Array.getElem?_setIfInBounds_self_of_lt (by have:=ocell 0 (by omega);exact (Array.getElem?_eq_some_iff.1 this).1)]
   rfl
  ·refine qg4.cell (j+1) ?_
   rw[Array.getElem?_setIfInBounds_ne (by omega),ocell (j+1) hj]
   show some (t.Y 0 (j+1)).v=some (if (0:Nat)=0∧j+1=0 then _ else t.Y 0 (j+1)).v
   rw[if_neg (by omega)]
 ·intro i hi
  obtain rfl:i=0:=by have hi':i<1:=hi;omega
  refine⟨fun j hj=>?_,?_,?_⟩
  ·by_cases e0:j=0
   ·subst e0
    exact blk_row n2
   ·have hz:zV.f 0 j=zeroV.f 0 j:=by show (if (0:Nat)=0∧j=0 then _ else _)=_;rw[if_neg (by omega)]
    rw[hz]
    show IsS _ (if (0:Nat)=0∧j=0 then ⟨some ⟨W.heap.size+1,0,none⟩,2,2⟩ else t.Y 0 j) _
    rw[if_neg (by omega)]
    exact lyn.f j hj
  ·exact lyn.u
  ·exact lyn.d
end
end Go.Proofs.YthliomlmhfjhnaaGreat

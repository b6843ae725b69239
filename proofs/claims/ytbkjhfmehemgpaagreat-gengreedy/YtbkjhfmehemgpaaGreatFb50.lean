/- Texts put together. -/
import Derived.Test.YtbkjhfmehemgpaaGreatFb49
namespace Go.Proofs.YtbkjhfmehemgpaaGreat
set_option maxRecDepth 20000
set_option maxHeartbeats 16000000
open Go.ChangeShapes Go.WideShapes Go.ChangeAt Go.RowKit
set_option linter.unusedVariables false
set_option linter.unusedSimpArgs false
theorem small_call (w:World):Calls Tryz.prog 34 #[] w fun e w'=>e=.returned (.agg #[.int .i64 2,.int .i64 1,.int .i64 1,.int .i64 2,.int .i64 1,.int .i64 0,.int .i64 0,.int .i64 0])∧Below w.heap.size w w':=by
 have hb:=bNw (Below.refl w.heap.size w) (.cells #[.int .i64 2,.int .i64 1,.int .i64 1,.int .i64 2,.int .i64 1,.int .i64 0,.int .i64 0,.int .i64 0] 23)
 go_enter Tryz.func34,Tryz.ntmps34
 go_wp2
 refine bodyPost_ret (v:=.agg #[.int .i64 2,.int .i64 1,.int .i64 1,.int .i64 2,.int .i64 1,.int .i64 0,.int .i64 0,.int .i64 0]) ?_ rfl ⟨rfl,hb⟩
 simp[results,Tryz.results34,go_sem]
theorem TM.step34 {B:Nat}{w w':World}{E L N O:SL}{Y U D:Nat→Nat→SL}{m:ModV}(h:TM B w E L N O Y U D m)(k:∀ t,t≠34→KeepsF B t w w'):TM B w' E L N O Y U D m :=
 ⟨⟨(k 61 (by decide)).own h.l.own,fun i hi=>⟨fun j hj=>((h.l.lay i hi).f j hj).stepF (k 118 (by decide)),⟨(k 31 (by decide)).own (h.l.lay i hi).u.own,fun j hj=>((h.l.lay i hi).u.row j hj).stepF (k 118 (by decide))⟩,⟨(k 31 (by decide)).own (h.l.lay i hi).d.own,fun j hj=>((h.l.lay i hi).d.row j hj).stepF (k 118 (by decide))⟩⟩⟩,h.e.stepF (k 118 (by decide)),h.n.stepF (k 118 (by decide)),h.o.stepF (k 118 (by decide))⟩
theorem TM.mod {B:Nat}{w:World}{t:MT}{m:ModV}(h:TM B w t.E t.L t.N t.O t.Y t.U t.D m):ModAt w t.E t.L t.N t.O t.Y t.U t.D m:=by
 obtain⟨L',e,hn⟩:=h.l.new h.e h.n h.o
 obtain rfl:t.L=L':=SL.v_inj e
 exact hn w fun _ _ hp _=>hp
abbrev smc (t:MT):Array Value:=#[.int .i64 2,.int .i64 1,.int .i64 1,.int .i64 2,.int .i64 1,.int .i64 0,.int .i64 0,.int .i64 0,.slice t.E.a t.E.n t.E.c,.slice t.L.a t.L.n t.L.c,.slice t.N.a t.N.n t.N.c,.slice t.O.a t.O.n t.O.c]
def M34 (s:Nat)(u:World)(b:Nat):Prop:=s=0∧∃ cs fr,u.heap[b]? = some (Obj.cells cs 34 fr)
theorem Chg.keeps34 {B:Nat}{k:Option Nat}{u u':World}(h:Chg M34 k u u')(t:TypeId)(ht:t≠34):KeepsF B t u u':=fun b cur fz _ e =>
 (h.block b (Array.getElem?_eq_some_iff.1 e).1 fun s ⟨_,cs,fr,e2⟩=>by rw[e] at e2;cases e2;exact absurd rfl ht).trans e
theorem Chg.all34 {u u':World}(h:Chg M34 (some 0) u u'){t:TypeId}{g:Nat}{cs:Array Value}(hq:Blk t u g cs):Blk t u' g cs:=(h.block g (Blk.lt hq) fun s e=>by rw[e.1]).trans hq
theorem Chg.tm34 {k:Option Nat}{u u':World}(h:Chg M34 k u u'){lo:Nat}{t:MT}{m:ModV}(x:TM lo u t.E t.L t.N t.O t.Y t.U t.D m):TM lo u' t.E t.L t.N t.O t.Y t.U t.D m:=x.step34 fun ty hty=>h.keeps34 ty hty
def eRow:EntR M34:=⟨fun v u=>∃ yb,v=.slice (some ⟨yb,0,none⟩) 34 34∧Blk 118 u yb (Array.replicate 34 (.int .i8 0)),none,fun _ u u' h ⟨yb,e,q⟩=>⟨yb,e,h.keeps34 (B:=0) 118 (by decide) yb _ _ (Nat.zero_le _) q⟩⟩
def eShp:EntR M34:=⟨fun v u=>∃ (t:MT) (lo:Nat),v=.tuple #[.agg (smc t),.int .i64 0]∧TM lo u t.E t.L t.N t.O t.Y t.U t.D zeroV,none,fun _ _ _ h ⟨t,lo,e,x⟩=>⟨t,lo,e,h.tm34 x⟩⟩
def eMod:EntR M34:=⟨fun v u=>∃ (t:MT) (lo:Nat),v=.agg (smc t)∧TM lo u t.E t.L t.N t.O t.Y t.U t.D zeroV,none,fun _ _ _ h ⟨t,lo,e,x⟩=>⟨t,lo,e,h.tm34 x⟩⟩
def eAl (B:Nat):EntR M34:=⟨fun v u=>∃ g,v=.pointer (some ⟨g,0,none⟩)∧B≤g∧∃ o:Array Value,o.size=12∧Blk 34 u g o,none,fun _ _ _ h ⟨g,e,l,o,ho,q⟩=>by
 obtain⟨o',q',ho'⟩:=h.typ g o 34 (0,0) q
 exact⟨g,e,l,o',ho'.trans ho,q'⟩⟩
def eSt:EntR M34:=⟨fun v u=>∃ (g:Nat) (t:MT) (lo:Nat),v=.pointer (some ⟨g,0,none⟩)∧Blk 34 u g (smc t)∧TM lo u t.E t.L t.N t.O t.Y t.U t.D zeroV,some 0,fun _ _ _ h ⟨g,t,lo,e,q,x⟩=>⟨g,t,lo,e,h.all34 q,h.tm34 x⟩⟩
def zN:Md:=⟨2,1,1,2,1,0,0,0,zeroV,0,0,noA⟩
theorem zm0:maxZ [0,0]=0:=by
 have e:places [0,0]=[0,1]:=by
  unfold places
  rw[show List.range ([0,0]:List Int).length=[0,1] from rfl]
  exact List.mergeSort_of_pairwise (by simp[ahead])
 unfold maxZ
 rw[e]
 rfl
theorem zs1:scoreL zN [1]=[0,0]:=by decide +kernel
theorem zs2:scoreL zN [1,0]=[0,0]:=by decide +kernel
theorem zs3:scoreL zN [1,0,0]=[0,0]:=by decide +kernel
theorem zb:badE zN=0:=by decide +kernel
theorem zv:(List.range 2).map (meanF (outF zN (tokF [1])) 1)=[0,0]:=by decide +kernel
abbrev zQ (g kk LL SS:Int)(b:Nat):Aq:=⟨kk,some ⟨b,0,none⟩,1,1,LL,SS,0,0,0,0,0⟩
abbrev zR (t:MT)(kk LL SS:Int)(b:Nat):Rq:=⟨zN,t.E,t.L,t.N,t.O,⟨none,0,0⟩,zQ 0 kk LL SS b⟩
theorem zr_t (t:MT)(SS:Int)(b:Nat)(p:Int):∀ l,nxZ (zR t 1 3 SS b) [p] l=maxZ (scoreL zN (p :: l)):=fun l=>by unfold nxZ nextZ;rw[if_pos rfl];rfl
theorem zr_e1 (t:MT)(b:Nat):reqE (zR t 1 3 (-1) b) [1]=0:=by unfold reqE;rw[if_pos zb];kernel_rfl
theorem zr_e2 (t:MT)(b:Nat):reqE (zR t 1 3 0 b) [1]=0:=by unfold reqE;rw[if_pos zb];kernel_rfl
theorem zr_e3 (t:MT)(b:Nat):reqE (zR t 4 0 0 b) [1]=0:=by unfold reqE;rw[if_pos zb];kernel_rfl
theorem zr_e4 (t:MT)(b:Nat):reqE (zR t 1 1 0 b) [2]=1:=by unfold reqE;rw[if_pos zb];kernel_rfl
theorem zr_t1 (t:MT)(b:Nat):ansT (zR t 1 3 (-1) b) [1] []=[0,0,0]:=by
 unfold ansT
 rw[if_pos (zr_e1 t b),if_neg (show ¬(1:Int)=4 by decide),if_neg (show ¬(1:Int)=3 by decide)]
 unfold tokensZ
 rw[show (zR t 1 3 (-1) b).q.L.toNat=3 from rfl]
 simp[tokGo,zr_t,zs1,zs2,zs3,zm0]
theorem zr_t2 (t:MT)(b:Nat):ansT (zR t 1 3 0 b) [1] []=[0]:=by
 unfold ansT
 rw[if_pos (zr_e2 t b),if_neg (show ¬(1:Int)=4 by decide),if_neg (show ¬(1:Int)=3 by decide)]
 unfold tokensZ
 rw[show (zR t 1 3 0 b).q.L.toNat=3 from rfl]
 simp[tokGo,zr_t,zs1,zm0]
theorem zr_t3 (t:MT)(b:Nat):ansT (zR t 4 0 0 b) [1] []=[]:=by unfold ansT;rw[if_pos (zr_e3 t b),if_pos rfl]
theorem zr_t4 (t:MT)(b:Nat):ansT (zR t 1 1 0 b) [2] []=[]:=by unfold ansT;rw[if_neg (by rw[zr_e4];decide)]
theorem zr_v1 (t:MT)(b:Nat):ansV (zR t 1 3 (-1) b) [1]=[]:=by unfold ansV;rw[if_pos (zr_e1 t b),if_neg (show ¬(1:Int)=4 by decide)]
theorem zr_v2 (t:MT)(b:Nat):ansV (zR t 1 3 0 b) [1]=[]:=by unfold ansV;rw[if_pos (zr_e2 t b),if_neg (show ¬(1:Int)=4 by decide)]
theorem zr_v3 (t:MT)(b:Nat):ansV (zR t 4 0 0 b) [1]=[0,0]:=by unfold ansV;rw[if_pos (zr_e3 t b),if_pos rfl];exact zv
theorem zr_v4 (t:MT)(b:Nat):ansV (zR t 1 1 0 b) [2]=[]:=by unfold ansV;rw[if_neg (by rw[zr_e4];decide)]
theorem zr_call (t:MT)(kk LL SS p:Int)(b:Nat)(T V:List Int)(E:Int)(eT:ansT (zR t kk LL SS b) [p] []=T)(eV:ansV (zR t kk LL SS b) [p]=V)(eE:reqE (zR t kk LL SS b) [p]=E)(hk:kk≠3)(hL:(Lit.int .i64 LL).wf=true)(w:World)(hm:ModAt w t.E t.L t.N t.O t.Y t.U t.D zeroV)(hr:Reads .i64 w (some ⟨b,0,none⟩) 1 [p]) :
  Calls Tryz.prog 9 #[.agg (smc t),.agg #[.int .i64 0,.int .i64 0,.slice none 0 0],.agg (zQ 0 kk LL SS b).cs] w fun e w'=>AnsAt w.heap.size T V E e w'∧Below w.heap.size w w':=by
 have:=answer_call (zR t kk LL SS b) t.Y t.U t.D (fun _ _=>⟨none,0,0⟩) [p] [] w ⟨hm,NewA.none_ 0 w _ w (fun _ _ hp _=>hp),⟨(show (Lit.int .u64 0).wf=true by decide),hL,hr,fun h=>(by cases h),Nat.le_refl _⟩⟩ (fun _ h=>absurd h hk)
 rw[eT,eV,eE] at this
 exact this
theorem wp_build_of {P:Program}{o:Oper}{b:Act}{u:World}{K:Act→World→Prop}{Q:Exit→Act→World→Prop}(t:TypeId)(parts:Array (Nat × Operand))(ho:o.op=.build t parts)(cs:Array Value)
  (hf:P.built t (parts.map fun (i,x)=>(i,b.eval x)).toList=some cs) (h:K (b.put o.dst (.agg cs)) u):o.wp P b u K Q :=
 wp_build t parts ho (by rw[hf];rfl) (by rw[hf];exact h)
def Ent.ans (T V:List Int)(E:Int):Ent:=.of (fun q u=>∃ ta tc va vc,q=.tuple #[.slice ta T.length tc,.slice va V.length vc,.int .i64 E]∧Reads .i64 u ta T.length T∧Reads .i64 u va V.length V) (fun _ _ _ hb ⟨ta,tc,va,vc,e,h,g⟩=>⟨ta,tc,va,vc,e,h.below hb,g.below hb⟩)
def Ent.one (p:Int):Ent:=.of (fun q u=>∃ b,q=.slice (some ⟨b,0,none⟩) 1 1∧Reads .i64 u (some ⟨b,0,none⟩) 1 [p]) (fun _ _ _ hb ⟨b,e,h⟩=>⟨b,e,h.below hb⟩)
def Ent.ask1 (kk LL SS p:Int):Ent:=.of (fun q u=>∃ b,q=.agg (zQ 0 kk LL SS b).cs∧Reads .i64 u (some ⟨b,0,none⟩) 1 [p]) (fun _ _ _ hb ⟨b,e,h⟩=>⟨b,e,h.below hb⟩)
theorem lit_row (l:List Int)(w:World)(hl:l.length≤9223372036854775807)(hw:∀ z∈l,(Lit.int .i64 z).wf=true):Reads .i64 (w.alloc (.cells (l.map (Value.int .i64)).toArray 3)) (some ⟨w.heap.size,0,none⟩) l.length l:=by
 have q:=Blk.new 3 w (l.map (Value.int .i64)).toArray
 refine Reads.of_row rfl hl hw fun i hi=>?_
 have e:(l.map (Value.int .i64)).toArray[i]? = some (.int .i64 (l.getD i 0)):=by simp[hi]
 have ea:(⟨w.heap.size,0,none⟩:Addr).add i=⟨w.heap.size,i,none⟩:=by simp[Addr.add];exact fun h=>h.symm
 rw[ea]
 exact q.cell i e
theorem works_call (w:World):Calls Tryz.prog 15 #[] w fun e w'=>e=.returned (.bool true)∧Below w.heap.size w w':=by
 have ks:=small_call
 have hb:=Below.refl w.heap.size w
 go_enter Tryz.func15,Tryz.ntmps15
 go_upto_region 1 with fail
 refine wp_region_tabS (G:=M34) (by kernel_rfl) (by kernel_rfl) rfl (fun u=>Below w.heap.size w u) [.eq (.agg #[.int .i64 2,.int .i64 1,.int .i64 1,.int .i64 2,.int .i64 1,.int .i64 0,.int .i64 0,.int .i64 0]),eRow,eShp,eShp,eMod,.eq (.int .i64 0),eAl w.heap.size,eSt,.eq (.int .i64 0)] (stores_ne _ rfl) (bDr hb ⟨1,rfl⟩) ⟨?c0,?m1,?c2,?p3,?x4,?x5,?a6,?s7,?p8,trivial⟩ ?fin
 case c0 =>
  rintro b u-hS-K hK
  go_wp2_with (go_at_call 34;refine (ks _).mono ?_;rintro e W1 ⟨rfl,h⟩;exact hK _ _ h (bTn hS h) rfl)
 case m1 =>
  rintro b u-hS-K hK
  have hr:(Instr.makeSlice 31 (.int .i64 34) (.int .i64 34)).run Tryz.prog u=.ok (.slice (some ⟨u.heap.size,0,none⟩) 34 34) (u.alloc (.cells (Array.replicate 34 (.int .i8 0)) 118)):=by
   have h:=run_make_row' 31 118 (.int .i8 0) 1 Tryz.underlying31 info118 rfl .i64 .i64 34 (by omega) (by omega) u
   rw[show madeCells #[(Value.int .i8 0)] 34=Array.replicate 34 (.int .i8 0) from by kernel_rfl] at h
   exact h
  have hh:=hK (.slice (some ⟨u.heap.size,0,none⟩) 34 34) _ (bNw (Below.refl _ _) (.cells (Array.replicate 34 (.int .i8 0)) 118)) (bNw hS _) ⟨_,rfl,Blk.new 118 u _⟩
  dsimp only
  unfold Oper.wp
  simp only[execOp,Act.eval,Sem.run_bind,hr,Result.andThen_ok,Sem.run_pure]
  exact hh
 case c2 =>
  rintro b u-hS ⟨h1,h2,-⟩ K hK
  replace h1:=show b.tmps.getD 16 undef=.agg #[.int .i64 2,.int .i64 1,.int .i64 1,.int .i64 2,.int .i64 1,.int .i64 0,.int .i64 0,.int .i64 0] from h1
  obtain⟨yb,h2,hq⟩:=h2
  replace h2:=show b.tmps.getD 17 undef=_ from h2
  dsimp only
  go_wp2_with (go_at_call 33;refine (zero_shape _ yb (zero_row hq)).mono ?_;rintro e W1 ⟨t,rfl,ht,h⟩;exact hK _ _ h (bTn hS h) ⟨t,_,rfl,ht.at⟩)
 case p3 =>
  rintro b u-hS ⟨h1,-⟩ K hK
  exact hK _ _ (Below.refl _ _) hS h1
 case x4 =>
  rintro b u-hS ⟨h1,-⟩ K hK
  obtain⟨t,lo,h1,x⟩:=h1
  dsimp only
  go_simp
  exact hK _ _ (Below.refl _ _) hS ⟨t,lo,rfl,x⟩
 case x5 =>
  rintro b u-hS ⟨h1,-⟩ K hK
  obtain⟨t,lo,h1,x⟩:=h1
  dsimp only
  go_simp
  exact hK _ _ (Below.refl _ _) hS rfl
 case a6 =>
  rintro b u-hS-K hK
  dsimp only
  go_simp
  exact hK _ _ (bNw (Below.refl _ _) _) (bNw hS _) ⟨_,rfl,hS.size,_,rfl,Blk.new 34 u _⟩
 case s7 =>
  rintro b u-hS ⟨h1,h2,-⟩ K hK
  obtain⟨g,h1,hl,o,ho,hq⟩:=h1
  obtain⟨t,lo,h2,x⟩:=h2
  refine wp_store_row 34 (.tmp 1) (.tmp 19) rfl g (smc t) h1 h2 34 o hq rfl ho (by kernel_rfl) (hK undef _ ⟨g,⟨rfl,_,_,hq⟩,but_setRow hq ho.symm⟩ (below_setRow hS hl _) ⟨g,t,lo,h1,setRow_blk hq,x.step34 fun ty hty=>?_⟩)
  exact fun b cur fz _ e=>(setRow_other _ _ _ _ (fun hbg=>by subst hbg;rw[show u.heap[b]? = _ from hq] at e;cases e;exact hty rfl)).trans e
 case p8 =>
  rintro b u-hS ⟨h1,-⟩ K hK
  exact hK _ _ (Below.refl _ _) hS h1
 case fin =>
  rintro g u hb ⟨-,-,-,-,-,-,-,⟨v,⟨g1,t,lo,e1,q,x⟩,hv⟩,f8,-⟩
  have f1:g 1=.pointer (some ⟨g1,0,none⟩):=(hv (by kernel_rfl)).symm.trans e1
  replace f8:=show g 2=.int .i64 0 from f8
  simp only[List.filterMap,List.foldl,f1,f8,Act.put,List.setIfInBounds_toArray,List.set_cons_succ,List.set_cons_zero]
  clear f1 f8 hv e1 ks
  have mo:=x.mod
  go_upto_region 2 with fail
  refine wp_region_tab0 (by kernel_rfl) rfl (fun W=>Below u.heap.size u W∧Blk 34 W g1 (smc t)∧ModAt W t.E t.L t.N t.O t.Y t.U t.D zeroV) [.eq (.agg (smc t)),.eq (.agg #[.int .i64 0,.int .i64 0,.slice none 0 0]),.one 1,.ask1 1 3 (-1) 1,.ans [0,0,0] [] 0,.ans [0,0,0] [] 0,.nums 3 [0,0,0],.nums 0 [],.eq (.int .i64 0),.nums 3 [0,0,0],.nums 0 [],.eq (.int .i64 0)] ⟨Below.refl _ _,q,mo⟩ ⟨?lv2,?bv2,?sv2,?kv2,?cv2,?mv2,?xv2,?yv2,?zv2,?pv2,?qv2,?rv2,trivial⟩ ?fv2
  case lv2 =>
   rintro b u-hS ⟨h1,-⟩ K hK
   exact ask_load rfl h1 hS.2.1 Tryz.underlying34 rfl rfl (hK _ _ (Below.refl _ _) hS rfl)
  case bv2 =>
   rintro b u-hS-K hK
   dsimp only
   go_simp
   exact hK _ _ (Below.refl _ _) hS rfl
  case sv2 =>
   rintro b u - ⟨hb,hq,hm⟩ - K hK
   dsimp only
   go_simp
   exact hK _ _ (bNw (Below.refl _ _) _) ⟨bNw hb _,hq.kept (bNw (Below.refl _ _) _),hm.below (bNw (Below.refl _ _) _)⟩ ⟨_,rfl,lit1 .i64 u 3 _ rfl 1 (by decide)⟩
  case kv2 =>
   rintro b u-hS ⟨h1,-⟩ K hK
   obtain⟨g2,h1,hr⟩:=h1
   replace h1:=show b.eval (.tmp 24)=_ from h1
   exact wp_build_of 28 _ rfl (zQ 0 1 3 (-1) g2).cs (by rw[List.map_toArray];simp only[List.map,h1];kernel_rfl) (hK _ _ (Below.refl _ _) hS ⟨g2,rfl,hr⟩)
  case cv2 =>
   rintro b u - ⟨hb,hq,hm⟩ ⟨h1,h2,h3,-⟩ K hK
   replace h1:=show b.tmps.getD 22 undef=.agg (smc t) from h1
   replace h2:=show b.tmps.getD 23 undef=.agg #[.int .i64 0,.int .i64 0,.slice none 0 0] from h2
   obtain⟨g2,h3,hr⟩:=h3
   replace h3:=show b.tmps.getD 25 undef=_ from h3
   dsimp only
   go_wp2_with (go_at_call 9;refine (zr_call t 1 3 (-1) 1 g2 [0,0,0] [] 0 (zr_t1 t g2) (zr_v1 t g2) (zr_e1 t g2) (by decide) (by decide) _ hm hr).mono ?_;rintro e W1 ⟨⟨ta,tc,va,vc,rfl,rt,rv,-⟩,h⟩;exact hK _ _ h ⟨bTn hb h,hq.kept h,hm.below h⟩ ⟨ta,tc,va,vc,rfl,rt,rv⟩)
  case mv2 | pv2 | qv2 | rv2 =>
   rintro b u-hS ⟨h1,-⟩ K hK
   exact hK _ _ (Below.refl _ _) hS h1
  case xv2 =>
   rintro b u-hS ⟨h1,-⟩ K hK
   obtain⟨ta,tc,va,vc,h1,rt,rv⟩:=h1
   dsimp only
   go_simp
   exact hK _ _ (Below.refl _ _) hS ⟨_,_,rfl,rt⟩
  case yv2 =>
   rintro b u-hS ⟨h1,-⟩ K hK
   obtain⟨ta,tc,va,vc,h1,rt,rv⟩:=h1
   dsimp only
   go_simp
   exact hK _ _ (Below.refl _ _) hS ⟨_,_,rfl,rv⟩
  case zv2 =>
   rintro b u-hS ⟨h1,-⟩ K hK
   obtain⟨ta,tc,va,vc,h1,rt,rv⟩:=h1
   dsimp only
   go_simp
   exact hK _ _ (Below.refl _ _) hS rfl
  rintro g u2 ⟨hx,q,mo⟩ ⟨-,-,-,-,-,-,-,-,-,⟨ta2,tc2,f1,rt2⟩,⟨va2,vc2,f2,rv2⟩,f3,-⟩
  replace f1:=show g 3=.slice ta2 _ tc2 from f1
  replace f2:=show g 4=.slice va2 _ vc2 from f2
  replace f3:=show g 5=.int .i64 0 from f3
  simp only[List.filterMap,List.foldl,f1,f2,f3,Act.put,List.setIfInBounds_toArray,List.set_cons_succ,List.set_cons_zero]
  clear f1 f2 f3
  replace hb:=bTn hb hx
  clear hx
  go_upto_region 3 with fail
  refine wp_region_tab0 (by kernel_rfl) rfl (fun W=>Below u2.heap.size u2 W∧Blk 34 W g1 (smc t)∧ModAt W t.E t.L t.N t.O t.Y t.U t.D zeroV) [.eq (.agg (smc t)),.eq (.agg #[.int .i64 0,.int .i64 0,.slice none 0 0]),.one 1,.ask1 1 3 0 1,.ans [0] [] 0,.ans [0] [] 0,.nums 1 [0],.nums 0 [],.eq (.int .i64 0),.nums 1 [0],.nums 0 [],.eq (.int .i64 0)] ⟨Below.refl _ _,q,mo⟩ ⟨?lv3,?bv3,?sv3,?kv3,?cv3,?mv3,?xv3,?yv3,?zv3,?pv3,?qv3,?rv3,trivial⟩ ?fv3
  case lv3 =>
   rintro b u-hS ⟨h1,-⟩ K hK
   exact ask_load rfl h1 hS.2.1 Tryz.underlying34 rfl rfl (hK _ _ (Below.refl _ _) hS rfl)
  case bv3 =>
   rintro b u-hS-K hK
   dsimp only
   go_simp
   exact hK _ _ (Below.refl _ _) hS rfl
  case sv3 =>
   rintro b u - ⟨hb,hq,hm⟩ - K hK
   dsimp only
   go_simp
   exact hK _ _ (bNw (Below.refl _ _) _) ⟨bNw hb _,hq.kept (bNw (Below.refl _ _) _),hm.below (bNw (Below.refl _ _) _)⟩ ⟨_,rfl,lit1 .i64 u 3 _ rfl 1 (by decide)⟩
  case kv3 =>
   rintro b u-hS ⟨h1,-⟩ K hK
   obtain⟨g2,h1,hr⟩:=h1
   replace h1:=show b.eval (.tmp 33)=_ from h1
   exact wp_build_of 28 _ rfl (zQ 0 1 3 0 g2).cs (by rw[List.map_toArray];simp only[List.map,h1];kernel_rfl) (hK _ _ (Below.refl _ _) hS ⟨g2,rfl,hr⟩)
  case cv3 =>
   rintro b u - ⟨hb,hq,hm⟩ ⟨h1,h2,h3,-⟩ K hK
   replace h1:=show b.tmps.getD 31 undef=.agg (smc t) from h1
   replace h2:=show b.tmps.getD 32 undef=.agg #[.int .i64 0,.int .i64 0,.slice none 0 0] from h2
   obtain⟨g2,h3,hr⟩:=h3
   replace h3:=show b.tmps.getD 34 undef=_ from h3
   dsimp only
   go_wp2_with (go_at_call 9;refine (zr_call t 1 3 0 1 g2 [0] [] 0 (zr_t2 t g2) (zr_v2 t g2) (zr_e2 t g2) (by decide) (by decide) _ hm hr).mono ?_;rintro e W1 ⟨⟨ta,tc,va,vc,rfl,rt,rv,-⟩,h⟩;exact hK _ _ h ⟨bTn hb h,hq.kept h,hm.below h⟩ ⟨ta,tc,va,vc,rfl,rt,rv⟩)
  case mv3 | pv3 | qv3 | rv3 =>
   rintro b u-hS ⟨h1,-⟩ K hK
   exact hK _ _ (Below.refl _ _) hS h1
  case xv3 =>
   rintro b u-hS ⟨h1,-⟩ K hK
   obtain⟨ta,tc,va,vc,h1,rt,rv⟩:=h1
   dsimp only
   go_simp
   exact hK _ _ (Below.refl _ _) hS ⟨_,_,rfl,rt⟩
  case yv3 =>
   rintro b u-hS ⟨h1,-⟩ K hK
   obtain⟨ta,tc,va,vc,h1,rt,rv⟩:=h1
   dsimp only
   go_simp
   exact hK _ _ (Below.refl _ _) hS ⟨_,_,rfl,rv⟩
  case zv3 =>
   rintro b u-hS ⟨h1,-⟩ K hK
   obtain⟨ta,tc,va,vc,h1,rt,rv⟩:=h1
   dsimp only
   go_simp
   exact hK _ _ (Below.refl _ _) hS rfl
  rintro g u3 ⟨hx,q,mo⟩ ⟨-,-,-,-,-,-,-,-,-,⟨ta3,tc3,f1,rt3⟩,⟨va3,vc3,f2,rv3⟩,f3,-⟩
  replace f1:=show g 6=.slice ta3 _ tc3 from f1
  replace f2:=show g 7=.slice va3 _ vc3 from f2
  replace f3:=show g 8=.int .i64 0 from f3
  simp only[List.filterMap,List.foldl,f1,f2,f3,Act.put,List.setIfInBounds_toArray,List.set_cons_succ,List.set_cons_zero]
  clear f1 f2 f3
  replace hb:=bTn hb hx
  replace rt2:=rt2.below hx
  clear hx
  go_upto_region 4 with fail
  refine wp_region_tab0 (by kernel_rfl) rfl (fun W=>Below u3.heap.size u3 W∧Blk 34 W g1 (smc t)∧ModAt W t.E t.L t.N t.O t.Y t.U t.D zeroV) [.eq (.agg (smc t)),.eq (.agg #[.int .i64 0,.int .i64 0,.slice none 0 0]),.one 1,.ask1 4 0 0 1,.ans [] [0,0] 0,.ans [] [0,0] 0,.nums 0 [],.nums 2 [0,0],.eq (.int .i64 0),.nums 0 [],.nums 2 [0,0],.eq (.int .i64 0)] ⟨Below.refl _ _,q,mo⟩ ⟨?lv4,?bv4,?sv4,?kv4,?cv4,?mv4,?xv4,?yv4,?zv4,?pv4,?qv4,?rv4,trivial⟩ ?fv4
  case lv4 =>
   rintro b u-hS ⟨h1,-⟩ K hK
   exact ask_load rfl h1 hS.2.1 Tryz.underlying34 rfl rfl (hK _ _ (Below.refl _ _) hS rfl)
  case bv4 =>
   rintro b u-hS-K hK
   dsimp only
   go_simp
   exact hK _ _ (Below.refl _ _) hS rfl
  case sv4 =>
   rintro b u - ⟨hb,hq,hm⟩ - K hK
   dsimp only
   go_simp
   exact hK _ _ (bNw (Below.refl _ _) _) ⟨bNw hb _,hq.kept (bNw (Below.refl _ _) _),hm.below (bNw (Below.refl _ _) _)⟩ ⟨_,rfl,lit1 .i64 u 3 _ rfl 1 (by decide)⟩
  case kv4 =>
   rintro b u-hS ⟨h1,-⟩ K hK
   obtain⟨g2,h1,hr⟩:=h1
   replace h1:=show b.eval (.tmp 42)=_ from h1
   exact wp_build_of 28 _ rfl (zQ 0 4 0 0 g2).cs (by rw[List.map_toArray];simp only[List.map,h1];kernel_rfl) (hK _ _ (Below.refl _ _) hS ⟨g2,rfl,hr⟩)
  case cv4 =>
   rintro b u - ⟨hb,hq,hm⟩ ⟨h1,h2,h3,-⟩ K hK
   replace h1:=show b.tmps.getD 40 undef=.agg (smc t) from h1
   replace h2:=show b.tmps.getD 41 undef=.agg #[.int .i64 0,.int .i64 0,.slice none 0 0] from h2
   obtain⟨g2,h3,hr⟩:=h3
   replace h3:=show b.tmps.getD 43 undef=_ from h3
   dsimp only
   go_wp2_with (go_at_call 9;refine (zr_call t 4 0 0 1 g2 [] [0,0] 0 (zr_t3 t g2) (zr_v3 t g2) (zr_e3 t g2) (by decide) (by decide) _ hm hr).mono ?_;rintro e W1 ⟨⟨ta,tc,va,vc,rfl,rt,rv,-⟩,h⟩;exact hK _ _ h ⟨bTn hb h,hq.kept h,hm.below h⟩ ⟨ta,tc,va,vc,rfl,rt,rv⟩)
  case mv4 | pv4 | qv4 | rv4 =>
   rintro b u-hS ⟨h1,-⟩ K hK
   exact hK _ _ (Below.refl _ _) hS h1
  case xv4 =>
   rintro b u-hS ⟨h1,-⟩ K hK
   obtain⟨ta,tc,va,vc,h1,rt,rv⟩:=h1
   dsimp only
   go_simp
   exact hK _ _ (Below.refl _ _) hS ⟨_,_,rfl,rt⟩
  case yv4 =>
   rintro b u-hS ⟨h1,-⟩ K hK
   obtain⟨ta,tc,va,vc,h1,rt,rv⟩:=h1
   dsimp only
   go_simp
   exact hK _ _ (Below.refl _ _) hS ⟨_,_,rfl,rv⟩
  case zv4 =>
   rintro b u-hS ⟨h1,-⟩ K hK
   obtain⟨ta,tc,va,vc,h1,rt,rv⟩:=h1
   dsimp only
   go_simp
   exact hK _ _ (Below.refl _ _) hS rfl
  rintro g u4 ⟨hx,q,mo⟩ ⟨-,-,-,-,-,-,-,-,-,⟨ta4,tc4,f1,rt4⟩,⟨va4,vc4,f2,rv4⟩,f3,-⟩
  replace f1:=show g 9=.slice ta4 _ tc4 from f1
  replace f2:=show g 10=.slice va4 _ vc4 from f2
  replace f3:=show g 11=.int .i64 0 from f3
  simp only[List.filterMap,List.foldl,f1,f2,f3,Act.put,List.setIfInBounds_toArray,List.set_cons_succ,List.set_cons_zero]
  clear f1 f2 f3
  replace hb:=bTn hb hx
  replace rt2:=rt2.below hx
  replace rt3:=rt3.below hx
  clear hx
  go_upto_region 5 with fail
  refine wp_region_tab0 (by kernel_rfl) rfl (fun W=>Below u4.heap.size u4 W∧Blk 34 W g1 (smc t)∧ModAt W t.E t.L t.N t.O t.Y t.U t.D zeroV) [.eq (.agg (smc t)),.eq (.agg #[.int .i64 0,.int .i64 0,.slice none 0 0]),.one 2,.ask1 1 1 0 2,.ans [] [] 1,.ans [] [] 1,.nums 0 [],.nums 0 [],.eq (.int .i64 1),.nums 0 [],.nums 0 [],.eq (.int .i64 1)] ⟨Below.refl _ _,q,mo⟩ ⟨?lv5,?bv5,?sv5,?kv5,?cv5,?mv5,?xv5,?yv5,?zv5,?pv5,?qv5,?rv5,trivial⟩ ?fv5
  case lv5 =>
   rintro b u-hS ⟨h1,-⟩ K hK
   exact ask_load rfl h1 hS.2.1 Tryz.underlying34 rfl rfl (hK _ _ (Below.refl _ _) hS rfl)
  case bv5 =>
   rintro b u-hS-K hK
   dsimp only
   go_simp
   exact hK _ _ (Below.refl _ _) hS rfl
  case sv5 =>
   rintro b u - ⟨hb,hq,hm⟩ - K hK
   dsimp only
   go_simp
   exact hK _ _ (bNw (Below.refl _ _) _) ⟨bNw hb _,hq.kept (bNw (Below.refl _ _) _),hm.below (bNw (Below.refl _ _) _)⟩ ⟨_,rfl,lit1 .i64 u 3 _ rfl 2 (by decide)⟩
  case kv5 =>
   rintro b u-hS ⟨h1,-⟩ K hK
   obtain⟨g2,h1,hr⟩:=h1
   replace h1:=show b.eval (.tmp 51)=_ from h1
   exact wp_build_of 28 _ rfl (zQ 0 1 1 0 g2).cs (by rw[List.map_toArray];simp only[List.map,h1];kernel_rfl) (hK _ _ (Below.refl _ _) hS ⟨g2,rfl,hr⟩)
  case cv5 =>
   rintro b u - ⟨hb,hq,hm⟩ ⟨h1,h2,h3,-⟩ K hK
   replace h1:=show b.tmps.getD 49 undef=.agg (smc t) from h1
   replace h2:=show b.tmps.getD 50 undef=.agg #[.int .i64 0,.int .i64 0,.slice none 0 0] from h2
   obtain⟨g2,h3,hr⟩:=h3
   replace h3:=show b.tmps.getD 52 undef=_ from h3
   dsimp only
   go_wp2_with (go_at_call 9;refine (zr_call t 1 1 0 2 g2 [] [] 1 (zr_t4 t g2) (zr_v4 t g2) (zr_e4 t g2) (by decide) (by decide) _ hm hr).mono ?_;rintro e W1 ⟨⟨ta,tc,va,vc,rfl,rt,rv,-⟩,h⟩;exact hK _ _ h ⟨bTn hb h,hq.kept h,hm.below h⟩ ⟨ta,tc,va,vc,rfl,rt,rv⟩)
  case mv5 | pv5 | qv5 | rv5 =>
   rintro b u-hS ⟨h1,-⟩ K hK
   exact hK _ _ (Below.refl _ _) hS h1
  case xv5 =>
   rintro b u-hS ⟨h1,-⟩ K hK
   obtain⟨ta,tc,va,vc,h1,rt,rv⟩:=h1
   dsimp only
   go_simp
   exact hK _ _ (Below.refl _ _) hS ⟨_,_,rfl,rt⟩
  case yv5 =>
   rintro b u-hS ⟨h1,-⟩ K hK
   obtain⟨ta,tc,va,vc,h1,rt,rv⟩:=h1
   dsimp only
   go_simp
   exact hK _ _ (Below.refl _ _) hS ⟨_,_,rfl,rv⟩
  case zv5 =>
   rintro b u-hS ⟨h1,-⟩ K hK
   obtain⟨ta,tc,va,vc,h1,rt,rv⟩:=h1
   dsimp only
   go_simp
   exact hK _ _ (Below.refl _ _) hS rfl
  rintro g u5 ⟨hx,q,mo⟩ ⟨-,-,-,-,-,-,-,-,-,⟨ta5,tc5,f1,rt5⟩,⟨va5,vc5,f2,rv5⟩,f3,-⟩
  replace f1:=show g 12=.slice ta5 _ tc5 from f1
  replace f2:=show g 13=.slice va5 _ vc5 from f2
  replace f3:=show g 14=.int .i64 1 from f3
  simp only[List.filterMap,List.foldl,f1,f2,f3,Act.put,List.setIfInBounds_toArray,List.set_cons_succ,List.set_cons_zero]
  clear f1 f2 f3
  replace hb:=bTn hb hx
  replace rt2:=rt2.below hx
  replace rt3:=rt3.below hx
  replace rv4:=rv4.below hx
  clear hx
  have mo0:=hb
  clear q mo rv2 rv3 rt4 rv5 rt5 mo0
  have k6:∀ (W:World),Calls Tryz.prog 35 #[.agg #[.int .i64 2,.int .i64 1,.int .i64 1,.int .i64 2,.int .i64 1,.int .i64 0,.int .i64 0,.int .i64 0],.agg (zQ 0 1 24 0 W.heap.size).cs] (W.alloc (.cells #[.int .i64 1] 3)) fun e w'=>e=.returned (.int .i64 4)∧Below (W.alloc (.cells #[.int .i64 1] 3)).heap.size (W.alloc (.cells #[.int .i64 1] 3)) w':=fun W=>by
   have:=akcheck_call ⟨2,1,1,2,1,0,0,0⟩ (zQ 0 1 24 0 W.heap.size) [1] (W.alloc (.cells #[.int .i64 1] 3)) (lit_row [1] W (by decide) (by decide))
   have e:checkZ ⟨2,1,1,2,1,0,0,0⟩ (zQ 0 1 24 0 W.heap.size) [1]=4:=by kernel_rfl
   rwa [e] at this
  go_wp2_with (first
   | (go_at_call 14;refine (same_ints ta2 3 tc2 [0,0,0] (some ⟨u5.heap.size,0,none⟩) 3 3 _ (rt2.below (bNw (Below.refl _ _) _)) (lit_row [0,0,0] u5 (by decide) (by decide))).mono ?_;rintro e V1 ⟨rfl,h⟩;have hx:=bTn (bNw (Below.refl u5.heap.size u5) (.cells #[.int .i64 0,.int .i64 0,.int .i64 0] 3)) h;replace hb:=bTn hb hx;replace rt3:=rt3.below hx;replace rv4:=rv4.below hx;clear h hx rt2)
   | (go_at_call 14;refine (same_ints ta3 1 tc3 [0] (some ⟨V1.heap.size,0,none⟩) 1 1 _ (rt3.below (bNw (Below.refl _ _) _)) (lit_row [0] V1 (by decide) (by decide))).mono ?_;rintro e V2 ⟨rfl,h⟩;have hx:=bTn (bNw (Below.refl V1.heap.size V1) (.cells #[.int .i64 0] 3)) h;replace hb:=bTn hb hx;replace rv4:=rv4.below hx;clear h hx rt3)
   | (go_at_call 14;refine (same_ints va4 2 vc4 [0,0] (some ⟨V2.heap.size,0,none⟩) 2 2 _ (rv4.below (bNw (Below.refl _ _) _)) (lit_row [0,0] V2 (by decide) (by decide))).mono ?_;rintro e V3 ⟨rfl,h⟩;have hx:=bTn (bNw (Below.refl V2.heap.size V2) (.cells #[.int .i64 0,.int .i64 0] 3)) h;replace hb:=bTn hb hx;clear h hx rv4)
   | (go_at_call 34;refine (small_call _).mono ?_;rintro e V4 ⟨rfl,h⟩;replace hb:=bTn hb h;clear h)
   | (go_at_call 35;refine (k6 _).mono ?_;rintro e V5 ⟨rfl,h⟩;replace hb:=bTn (bNw hb _) h;clear h k6))
  go_ret
  exact⟨rfl,hb⟩
theorem topTo_at (row:List Int):∀ n,1≤n→∃ j,j<n∧cZ (row.getD j 0)=topTo row n
 | 0,h=>by omega
 | n+1,_=>by
  show ∃ j,j<n+1∧cZ (row.getD j 0)=max (topTo row n) (cZ (row.getD n 0))
  by_cases h:n=0
  ·subst h
   have:=cZb (row.getD 0 0)
   exact⟨0,by omega,by show _=max (-2147483648) _;omega⟩
  ·obtain⟨j,hj,e⟩:=topTo_at row n (by omega)
   by_cases hh:topTo row n≤cZ (row.getD n 0)
   ·exact⟨n,by omega,by omega⟩
   ·exact⟨j,by omega,by omega⟩
theorem clamp_row (ws:List Int)(d:Nat)(xs:List Int)(i:Nat):cZ (rowZ ws d xs i)=rowZ ws d xs i:=by
 unfold rowZ dotZ
 have h:=cZb
 exact clampZ_of _ (h _).1 (h _).2
theorem scoreL_clamp (M:Md)(l:List Int)(i:Nat):cZ ((scoreL M l).getD i 0)=(scoreL M l).getD i 0:=by
 unfold scoreL matL
 by_cases h:i<M.m.o.length/(lastL M l).length
 ·have e:((List.range (M.m.o.length/(lastL M l).length)).map (rowZ M.m.o (lastL M l).length (lastL M l))).getD i 0=rowZ M.m.o (lastL M l).length (lastL M l) i:=by simp[List.getD,h]
  rw[e]
  exact clamp_row _ _ _ _
 ·have e:((List.range (M.m.o.length/(lastL M l).length)).map (rowZ M.m.o (lastL M l).length (lastL M l))).getD i 0=0:=by simp[List.getD,h]
  rw[e]
  decide
theorem first_of {xs:List Int}{p:Nat}(hp:p<xs.length)(h:∀ k,k<xs.length→ahead xs k p=false):(places xs).getD 0 0=p:=by
 have P:=places_ordered xs
 refine (P.rank_iff hp (by omega)).1 ?_
 unfold rankTo
 rw[List.countP_eq_zero]
 intro k hk
 rw[h k (List.mem_range.1 hk)]
 decide
theorem first_ahead {xs:List Int}(hp:0<xs.length):(places xs).getD 0 0<xs.length∧∀ k,k<xs.length→ahead xs k ((places xs).getD 0 0)=false:=by
 have P:=places_ordered xs
 refine⟨P.lt hp,fun k hk=>?_⟩
 have r0:=P.rank (m:=0) hp
 unfold rankTo at r0
 rw[List.countP_eq_zero] at r0
 have:=r0 k (List.mem_range.2 hk)
 simpa using this
theorem grow_one {zs ts:List Int}(len stop:Int)(h:0<zs.length)(hc:∀ i,cZ (zs.getD i 0)=zs.getD i 0) :
  bestZ (grownTo ⟨ts,0,false⟩ 0 zs len stop zs.length) 1=[⟨0,maxZ zs,0,decide (len≤(ts.length:Int)+1) || decide (maxZ zs=stop)⟩]:=by
 obtain⟨hp,ha⟩:=first_ahead h
 have em:maxZ zs=(((places zs).getD 0 0:Nat):Int):=by unfold maxZ;rw[if_neg (by omega)]
 obtain⟨p,ep⟩:∃ p,(places zs).getD 0 0=p:=⟨_,rfl⟩
 rw[ep] at hp ha em
 rw[em]
 obtain⟨cs,ecs⟩:∃ cs,grownTo ⟨ts,0,false⟩ 0 zs len stop zs.length=cs:=⟨_,rfl⟩
 have at_:∀ i,i<zs.length→cs.getD i c0=⟨0,(i:Int),cZ (cZ 0+lossZ zs i),decide (len≤(ts.length:Int)+1) || decide ((i:Int)=stop)⟩:=fun i hi=>by
  rw[←ecs]
  simp only[grownTo,List.getD,List.getElem?_map,List.getElem?_range hi,Option.map_some,Option.getD_some]
 have hlen:cs.length=zs.length:=by rw[←ecs,grownTo_length]
 rw[ecs]
 have vb:∀ i,-2147483648≤zs.getD i 0∧zs.getD i 0≤2147483647:=fun i=>by have:=cZb (zs.getD i 0);rw[hc] at this;exact this
 have top:topC zs=zs.getD p 0:=by
  obtain⟨j,hj,e⟩:=topTo_at zs zs.length (by omega)
  have h1:=topTo_le zs hp
  rw[hc] at h1 e
  have h2:=ha j hj
  rw[ahead_not] at h2
  unfold topC
  omega
 have sc:∀ k,k<zs.length→(bescoresZ cs).getD k 0=cZ (zs.getD k 0-zs.getD p 0):=fun k hk=>by
  rw[scores_at cs (by omega),at_ k hk]
  show cZ (cZ 0+lossZ zs k)=_
  unfold lossZ
  rw[hc,top]
  have:=cZb (zs.getD k 0-zs.getD p 0)
  rw[show cZ 0=0 by decide,Int.zero_add]
  exact clampZ_of _ this.1 this.2
 have lsc:(bescoresZ cs).length=zs.length:=by simp[bescoresZ,hlen]
 have fp:=first_of (xs:=bescoresZ cs) (p:=p) (by omega) fun k hk=>by
  rw[lsc] at hk
  have h2:=ha k hk
  rw[ahead_not] at h2 ⊢
  rw[sc k hk,sc p hp,Int.sub_self]
  have b1:=vb k
  have b2:=vb p
  unfold cZ
  omega
 have sp:cZ (cZ 0+lossZ zs p)=0:=by
  have:=sc p hp
  rw[scores_at cs (by omega),at_ p hp,Int.sub_self] at this
  exact this
 have l:=bestZ_length cs 1
 have a0:=bestZ_at cs 1 (i:=0) (by rw[hlen];show 0<min 1 _;omega)
 rw[fp,at_ p hp,sp] at a0
 have l1:(bestZ cs 1).length=1:=by rw[l,hlen];show min 1 _=1;omega
 revert a0 l1
 generalize bestZ cs 1=X
 intro a0 l1
 match X,l1,a0 with
 | [x],_,a0 =>
  have h0:x=_:=a0
  rw[h0]
def One (b:Bs)(ts:List Int)(f:Bool):Prop:=b.n=1∧b.L 0=⟨ts,0,f⟩
theorem next_one {r:Rq}{ps:List Int}{b:Bs}{ts:List Int}(K:MdOk r.M)(hB:r.q.B=1)(h:One b ts false) :
  One (nextB r ps b) (ts++[maxZ (scoreL r.M (ps++ts))]) (decide (r.q.L≤(ts.length:Int)+1) || decide (maxZ (scoreL r.M (ps++ts))=r.q.S)):=by
 obtain⟨L,n⟩:=b
 obtain⟨hn,h0⟩:=h
 replace hn:n=1:=hn
 replace h0:L 0=⟨ts,0,false⟩:=h0
 subst hn
 have v0:=K.fit.v0
 have lz:=scoreL_length K (ps++ts)
 have live:liveTo L 1=1:=by show 0+(if (L 0).f=true then 0 else 1)=1;rw[h0];rfl
 have row:openR r ps L 1 0=scoreL r.M (ps++ts):=by
  unfold openR
  show (([]++(if (L 0).f=true then [] else [scoreL r.M (ps++(L 0).t)]):List (List Int))).getD 0 []=_
  rw[h0]
  rfl
 have hE:growE L 1 (openR r ps L 1) (liveTo L 1) r.q.B=0:=by
  unfold growE
  rw[if_neg (by omega),if_pos]
  unfold befitB
  rw[live]
  simp[row]
  omega
 have mr:=maxZ_range (xs:=scoreL r.M (ps++ts)) (by omega)
 have eG:nextG r ps ⟨L,1⟩=[⟨0,maxZ (scoreL r.M (ps++ts)),0,decide (r.q.L≤(ts.length:Int)+1) || decide (maxZ (scoreL r.M (ps++ts))=r.q.S)⟩]:=by
  unfold nextG growL
  rw[if_pos hE,hB]
  show bestZ ([]++candOf L (openR r ps L 1) r.q.L r.q.S 0) 1=_
  unfold candOf
  rw[show liveTo L 0=0 from rfl,row,h0,List.nil_append,if_neg (show ¬false=true by decide)]
  exact grow_one _ _ (by omega) (scoreL_clamp _ _)
 refine⟨by show (nextG r ps ⟨L,1⟩).length=1;rw[eG];rfl,?_⟩
 show growB L (nextG r ps ⟨L,1⟩) 0=_
 rw[eG]
 unfold growB wholeZ
 rw[show List.getD [(⟨0,maxZ (scoreL r.M (ps++ts)),0,decide (r.q.L≤(ts.length:Int)+1) || decide (maxZ (scoreL r.M (ps++ts))=r.q.S)⟩:Cd)] 0 c0=⟨0,maxZ (scoreL r.M (ps++ts)),0,decide (r.q.L≤(ts.length:Int)+1) || decide (maxZ (scoreL r.M (ps++ts))=r.q.S)⟩ from rfl]
 dsimp only
 rw[h0,if_neg (by omega)]
theorem one_open {b:Bs}{ts:List Int}{f:Bool}(h:One b ts f):anyOpen b.L b.n = !f:=by
 unfold anyOpen
 rw[h.1]
 show ((!(b.L 0).f) || false)=_
 rw[h.2,Bool.or_false]
theorem one_stays {r:Rq}{ps:List Int}{b:Bs}{ts:List Int}(h:One b ts true):∀ m,triesN r ps m b=b
 | 0=>rfl
 | m+1=>by
  unfold triesN
  rw[if_neg (by rw[one_open h];decide)]
theorem tries_one {r:Rq}{ps:List Int}(K:MdOk r.M)(hB:r.q.B=1):∀ (m:Nat) (ts:List Int) (b:Bs),One b ts false→ts.length+(m+1)=r.q.L.toNat →
  One (triesN r ps (m+1) b) (tokGo (fun l=>maxZ (scoreL r.M (ps++l))) r.q.S (m+1) ts) true
 | m,ts,b,h,hk=>by
  have hx:=next_one (ps:=ps) K hB h
  unfold triesN tokGo
  rw[if_pos (by rw[one_open h];rfl)]
  obtain⟨x,ex⟩:∃ x,maxZ (scoreL r.M (ps++ts))=x:=⟨_,rfl⟩
  rw[ex] at hx
  try dsimp only
  rw[ex]
  by_cases hs:x=r.q.S
  ·rw[decide_eq_true hs,Bool.or_true] at hx
   rw[if_pos hs,one_stays hx]
   exact hx
  ·rw[if_neg hs]
   rw[decide_eq_false hs,Bool.or_false] at hx
   cases m with
   | zero =>
    rw[decide_eq_true (by omega)] at hx
    exact hx
   | succ m =>
    rw[decide_eq_false (by omega)] at hx
    exact tries_one K hB m (ts++[x]) _ hx (by simp;omega)
theorem beam_one {r:Rq}{ps:List Int}(K:MdOk r.M)(hB:r.q.B=1)(hL:1≤r.q.L):((triesZ' r ps).L (bestOf (triesZ' r ps).L (triesZ' r ps).n r.q.E)).t=tokGo (fun l=>maxZ (scoreL r.M (ps++l))) r.q.S r.q.L.toNat []:=by
 obtain⟨m,hm⟩:∃ m,r.q.L.toNat=m+1:=⟨r.q.L.toNat-1,by omega⟩
 have h:=tries_one (ps:=ps) K hB m [] bs0 ⟨rfl,rfl⟩ (by simp;omega)
 rw[←hm] at h
 replace h:One (triesZ' r ps) _ true:=h
 have hb:=(bestOf_lt (triesZ' r ps).L r.q.E (show 0<(triesZ' r ps).n by rw[h.1];omega)).1
 rw[h.1] at hb ⊢
 obtain e:bestOf (triesZ' r ps).L 1 r.q.E=0:=by omega
 rw[e,h.2]
abbrev hOne:Nat:=4607182418800017408
abbrev hNeg:Nat:=13830554455654793216
theorem isN_one:isN hOne=false:=by decide +kernel
theorem isN_neg:isN hNeg=false:=by decide +kernel
theorem heat_neg:heatZ hNeg<1:=by decide +kernel
abbrev gr1 (q:Aq):Aq:=⟨1,q.a,q.n,q.c,q.L,q.S,q.sd,q.T,q.H,q.B,q.E⟩
abbrev gr2 (q:Aq):Aq:=⟨2,q.a,q.n,q.c,q.L,q.S,q.sd,1,hOne,q.B,q.E⟩
abbrev gr3 (q:Aq):Aq:=⟨2,q.a,q.n,q.c,q.L,q.S,q.sd,2,hNeg,q.B,q.E⟩
abbrev gr4 (q:Aq):Aq:=⟨3,q.a,q.n,q.c,q.L,q.S,q.sd,2,hNeg,1,7⟩
theorem req_tries {r:Rq}{ps:List Int}(h:reqE r ps=0)(h3:r.q.k=3):1≤r.q.B∧r.q.B≤4:=by
 unfold reqE at h
 by_cases hE:badE r.M=0
 case neg=>rw[if_neg hE] at h;exact absurd h hE
 rw[if_pos hE] at h
 unfold checkZ at h
 by_cases hc:(r.cf.ok && (promptZ r.cf ps && kindZ r.cf r.q))=true
 case neg=>rw[if_neg hc] at h;exact absurd h (by decide)
 simp only[Bool.and_eq_true] at hc
 have hk:=hc.2.2
 unfold kindZ triesZ at hk
 rw[if_neg (by omega),if_pos h3] at hk
 simp only[Bool.and_eq_true,decide_eq_true_eq] at hk
 omega
theorem req_kind {k:Kg}{t:MT}{La:SL}{q q':Aq}{zs:List Int}(h:reqE (caseR k t La q) zs=0)(h4:q.k≠4)(h4':q'.k≠4)(hn:q'.n=q.n)(hL:q'.L=q.L)(hk:kindZ (caseR k t La q').cf q'=true):reqE (caseR k t La q') zs=0:=by
 unfold reqE at h ⊢
 by_cases hE:badE (caseR k t La q).M=0
 case neg=>rw[if_neg hE] at h;exact absurd h hE
 rw[if_pos hE] at h
 rw[if_pos (show badE (caseR k t La q').M=0 from hE)]
 unfold checkZ at h ⊢
 by_cases hc:((caseR k t La q).cf.ok && (promptZ (caseR k t La q).cf zs && kindZ (caseR k t La q).cf (caseR k t La q).q))=true
 case neg=>rw[if_neg hc] at h;exact absurd h (by decide)
 rw[if_pos hc] at h
 simp only[Bool.and_eq_true] at hc
 have e1:(caseR k t La q').cf.ok=true:=hc.1
 have e2:promptZ (caseR k t La q').cf zs=true:=hc.2.1
 have e4:longZ q'=longZ q:=by unfold longZ;rw[if_neg h4,if_neg h4',hn,hL]
 rw[show (caseR k t La q').q=q' from rfl,e1,e2,hk,e4]
 exact h
theorem end_of {k:Kg}{t:MT}{La:SL}{q:Aq}{zs:List Int}(h:reqE (caseR k t La (gr1 q)) zs=0):endZ (caseR k t La (gr1 q)).cf (gr1 q)=true:=by
 unfold reqE at h
 by_cases hE:badE (caseR k t La (gr1 q)).M=0
 case neg=>rw[if_neg hE] at h;exact absurd h hE
 rw[if_pos hE] at h
 unfold checkZ at h
 by_cases hc:((caseR k t La (gr1 q)).cf.ok && (promptZ (caseR k t La (gr1 q)).cf zs && kindZ (caseR k t La (gr1 q)).cf (caseR k t La (gr1 q)).q))=true
 case neg=>rw[if_neg hc] at h;exact absurd h (by decide)
 simp only[Bool.and_eq_true] at hc
 have hk:=hc.2.2
 unfold kindZ at hk
 simpa using hk
def bestT (k:Kg)(q:Aq)(zs:List Int):List Int:=tokGo (fun l=>maxZ (scoreL k.M (zs++l))) q.S q.L.toNat []
theorem gr_law {k:Kg}{t:MT}{La:SL}{q:Aq}{zs:List Int}(h:reqE (caseR k t La (gr1 q)) zs=0) :
  ansT (caseR k t La (gr1 q)) zs []=bestT k q zs ∧
  (reqE (caseR k t La (gr2 q)) zs=0∧ansT (caseR k t La (gr2 q)) zs []=bestT k q zs) ∧
  (reqE (caseR k t La (gr3 q)) zs=0∧ansT (caseR k t La (gr3 q)) zs []=bestT k q zs) ∧
  (reqE (caseR k t La (gr4 q)) zs=0∧ansT (caseR k t La (gr4 q)) zs (beamZ (caseR k t La (gr4 q)) zs)=bestT k q zs):=by
 have o:=req_ok h
 have he:=end_of h
 have v0:2≤k.M.v:=o.K.fit.v0
 have e2:reqE (caseR k t La (gr2 q)) zs=0:=req_kind h (show (1:Int)≠4 by decide) (show (2:Int)≠4 by decide) rfl rfl (by
  show (choiceZ _ (gr2 q) && endZ _ (gr2 q))=true
  rw[show endZ (caseR k t La (gr2 q)).cf (gr2 q)=true from he,Bool.and_true]
  unfold choiceZ
  rw[show (gr2 q).H=hOne from rfl,isN_one]
  simp only[Bool.and_eq_true,decide_eq_true_eq]
  exact⟨by show (1:Int)≤1;omega,by show (1:Int)≤k.M.v;omega,rfl⟩)
 have e3:reqE (caseR k t La (gr3 q)) zs=0:=req_kind h (show (1:Int)≠4 by decide) (show (2:Int)≠4 by decide) rfl rfl (by
  show (choiceZ _ (gr3 q) && endZ _ (gr3 q))=true
  rw[show endZ (caseR k t La (gr3 q)).cf (gr3 q)=true from he,Bool.and_true]
  unfold choiceZ
  rw[show (gr3 q).H=hNeg from rfl,isN_neg]
  simp only[Bool.and_eq_true,decide_eq_true_eq]
  exact⟨by show (1:Int)≤2;omega,by show (2:Int)≤k.M.v;omega,rfl⟩)
 have e4:reqE (caseR k t La (gr4 q)) zs=0:=req_kind h (show (1:Int)≠4 by decide) (show (3:Int)≠4 by decide) rfl rfl (by
  show (triesZ (gr4 q) && endZ _ (gr4 q))=true
  rw[show endZ (caseR k t La (gr4 q)).cf (gr4 q)=true from he]
  rfl)
 refine⟨?_,⟨e2,?_⟩,⟨e3,?_⟩,⟨e4,?_⟩⟩
 ·unfold ansT
  rw[if_pos h,if_neg (show ¬(1:Int)=4 by decide),if_neg (show ¬(1:Int)=3 by decide)]
  rfl
 ·unfold ansT
  rw[if_pos e2,if_neg (show ¬(2:Int)=4 by decide),if_neg (show ¬(2:Int)=3 by decide)]
  have f:nxZ (caseR k t La (gr2 q)) zs=fun l=>maxZ (scoreL k.M (zs++l)):=funext fun l=>by
   unfold nxZ nextZ
   rw[if_neg (show ¬(2:Int)=1 by decide)]
   unfold chooseZ
   rw[if_pos (.inr (show (1:Int)<2 by decide))]
  unfold tokensZ bestT
  rw[f]
 ·unfold ansT
  rw[if_pos e3,if_neg (show ¬(2:Int)=4 by decide),if_neg (show ¬(2:Int)=3 by decide)]
  have f:nxZ (caseR k t La (gr3 q)) zs=fun l=>maxZ (scoreL k.M (zs++l)):=funext fun l=>by
   unfold nxZ nextZ
   rw[if_neg (show ¬(2:Int)=1 by decide)]
   unfold chooseZ
   rw[if_pos (.inl heat_neg)]
  unfold tokensZ bestT
  rw[f]
 ·unfold ansT
  rw[if_pos e4,if_neg (show ¬(3:Int)=4 by decide),if_pos rfl]
  exact beam_one (r:=caseR k t La (gr4 q)) o.K rfl (o.len (show (1:Int)≠4 by decide)).1
theorem beam_ans (k:Kg)(t:MT)(La:SL)(Ya:Nat→Nat→SL)(q:Aq)(zs:List Int)(hk:q.k=3)(w:World)(hm:ModAt w t.E t.L t.N t.O t.Y t.U t.D k.M.m)(ha:AdAt w La Ya k.M.a)(hq:AkAt w q zs)(T V:List Int)(E:Int)(eT:ansT (caseR k t La q) zs (beamZ (caseR k t La q) zs)=T)(eV:ansV (caseR k t La q) zs=V)(eE:reqE (caseR k t La q) zs=E) :
  Calls Tryz.prog 9 #[(caseR k t La q).mw,(caseR k t La q).aw,q.w] w fun e w'=>AnsAt w.heap.size T V E e w'∧Below w.heap.size w w':=by
 subst eT eV eE
 refine answer_call (caseR k t La q) t.Y t.U t.D Ya zs (beamZ (caseR k t La q) zs) w ⟨hm,ha,hq⟩ fun h0 h3 W hW=>?_
 have o:=req_ok h0
 have hn:zs.length=q.n:=hq.t.len
 refine (tried_call (caseR k t La q) t.Y t.U t.D Ya zs o.K W (RqAt.below ⟨hm,ha,hq⟩ hW) (by have:=o.p0;show 0<q.n;omega) o.pv (o.len (by show q.k≠4;omega)) (req_tries h0 hk)).mono ?_
 rintro e w' ⟨⟨a,c,he,hr,hc,hf⟩,hb⟩
 exact⟨⟨a,c,he,hr,hc,fun x hx=>Nat.le_trans hW.size (hf x hx)⟩,hb⟩
end Go.Proofs.YtbkjhfmehemgpaaGreat

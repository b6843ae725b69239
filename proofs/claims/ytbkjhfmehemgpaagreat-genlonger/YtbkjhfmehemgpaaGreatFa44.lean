/- Texts put together: GxWk. -/
import Derived.Test.YtbkjhfmehemgpaaGreatRows
import Derived.Test.YtbkjhfmehemgpaaGreatFa43
namespace Go.Proofs.YtbkjhfmehemgpaaGreat
set_option maxRecDepth 20000
set_option maxHeartbeats 16000000
open Go.ChangeShapes Go.WideShapes Go.ChangeAt Go.RowKit
set_option linter.unusedVariables false
set_option linter.unusedSimpArgs false
section
theorem small_call (w:World):Calls Tryz.prog 34 #[] w fun e w'=>e=.returned (.agg #[.int .i64 2,.int .i64 1,.int .i64 1,.int .i64 2,.int .i64 1,.int .i64 0,.int .i64 0,.int .i64 0])∧Below w.heap.size w w':=by
 have hb:=below_new (Below.refl w.heap.size w) (.cells #[.int .i64 2,.int .i64 1,.int .i64 1,.int .i64 2,.int .i64 1,.int .i64 0,.int .i64 0,.int .i64 0] 23)
 go_enter Tryz.func34,Tryz.ntmps34
 go_wp2
 refine bodyPost_ret (v:=.agg #[.int .i64 2,.int .i64 1,.int .i64 1,.int .i64 2,.int .i64 1,.int .i64 0,.int .i64 0,.int .i64 0]) ?_ rfl ⟨rfl,hb⟩
 simp[results,Tryz.results34,go_sem]
theorem TM.step34 {B:Nat} {w w':World} {E L N O:SL} {Y U D:Nat→Nat→SL} {m:ModV} (h:TM B w E L N O Y U D m) (k:∀ t,t≠34→KeepsF B t w w'):TM B w' E L N O Y U D m :=
 ⟨⟨(k 61 (by decide)).own h.l.own,fun i hi=>⟨fun j hj=>((h.l.lay i hi).f j hj).stepF (k 118 (by decide)),⟨(k 31 (by decide)).own (h.l.lay i hi).u.own,fun j hj=>((h.l.lay i hi).u.row j hj).stepF (k 118 (by decide))⟩,⟨(k 31 (by decide)).own (h.l.lay i hi).d.own,fun j hj=>((h.l.lay i hi).d.row j hj).stepF (k 118 (by decide))⟩⟩⟩,h.e.stepF (k 118 (by decide)),h.n.stepF (k 118 (by decide)),h.o.stepF (k 118 (by decide))⟩
theorem TM.mod {B:Nat} {w:World} {t:MT} {m:ModV} (h:TM B w t.E t.L t.N t.O t.Y t.U t.D m):ModAt w t.E t.L t.N t.O t.Y t.U t.D m:=by
 obtain⟨L',e,hn⟩:=h.l.new h.e h.n h.o
 obtain rfl:t.L=L':=SL.v_inj e
 exact hn w fun _ _ hp _=>hp
abbrev smc (t:MT):Array Value:=#[.int .i64 2,.int .i64 1,.int .i64 1,.int .i64 2,.int .i64 1,.int .i64 0,.int .i64 0,.int .i64 0,.slice t.E.a t.E.n t.E.c,.slice t.L.a t.L.n t.L.c,.slice t.N.a t.N.n t.N.c,.slice t.O.a t.O.n t.O.c]
def M34 (s:Nat) (u:World) (b:Nat):Prop:=s=0∧∃ cs fr,u.heap[b]? = some (Obj.cells cs 34 fr)
theorem Chg.keeps34 {B:Nat} {k:Option Nat} {u u':World} (h:Chg M34 k u u') (t:TypeId) (ht:t≠34):KeepsF B t u u':=fun b cur fz _ e =>
 (h.block b (Array.getElem?_eq_some_iff.1 e).1 fun s ⟨_,cs,fr,e2⟩=>by rw[e] at e2;cases e2;exact absurd rfl ht).trans e
theorem Chg.all34 {u u':World} (h:Chg M34 (some 0) u u') {t:TypeId} {g:Nat} {cs:Array Value} (hq:Blk t u g cs):Blk t u' g cs:=(h.block g (Blk.lt hq) fun s e=>by rw[e.1]).trans hq
theorem Chg.tm34 {k:Option Nat} {u u':World} (h:Chg M34 k u u') {lo:Nat} {t:MT} {m:ModV} (x:TM lo u t.E t.L t.N t.O t.Y t.U t.D m):TM lo u' t.E t.L t.N t.O t.Y t.U t.D m:=x.step34 fun ty hty=>h.keeps34 ty hty
def eRow:EntR M34:=⟨fun v u=>∃ yb,v=.slice (some ⟨yb,0,none⟩) 34 34∧Blk 118 u yb (Array.replicate 34 (.int .i8 0)),none,fun _ u u' h ⟨yb,e,q⟩=>⟨yb,e,h.keeps34 (B:=0) 118 (by decide) yb _ _ (Nat.zero_le _) q⟩⟩
def eShp:EntR M34:=⟨fun v u=>∃ (t:MT) (lo:Nat),v=.tuple #[.agg (smc t),.int .i64 0]∧TM lo u t.E t.L t.N t.O t.Y t.U t.D zeroV,none,fun _ _ _ h ⟨t,lo,e,x⟩=>⟨t,lo,e,h.tm34 x⟩⟩
def eMod:EntR M34:=⟨fun v u=>∃ (t:MT) (lo:Nat),v=.agg (smc t)∧TM lo u t.E t.L t.N t.O t.Y t.U t.D zeroV,none,fun _ _ _ h ⟨t,lo,e,x⟩=>⟨t,lo,e,h.tm34 x⟩⟩
def eAl (B:Nat):EntR M34:=⟨fun v u=>∃ g,v=.pointer (some ⟨g,0,none⟩)∧B≤g∧∃ o:Array Value,o.size=12∧Blk 34 u g o,none,fun _ _ _ h ⟨g,e,l,o,ho,q⟩=>by
 obtain⟨o',q',ho'⟩:=h.typ g o 34 (0,0) q
 exact⟨g,e,l,o',ho'.trans ho,q'⟩⟩
def eSt:EntR M34:=⟨fun v u=>∃ (g:Nat) (t:MT) (lo:Nat),v=.pointer (some ⟨g,0,none⟩)∧Blk 34 u g (smc t)∧TM lo u t.E t.L t.N t.O t.Y t.U t.D zeroV,some 0,fun _ _ _ h ⟨g,t,lo,e,q,x⟩=>⟨g,t,lo,e,h.all34 q,h.tm34 x⟩⟩
def zN:Md:=⟨2,1,1,2,1,0,0,0,zeroV,0,0,noA⟩
theorem zm0:maxZ [0,0]=0:=by
 have e:places [0,0]=[0,1]:=by
  unfold places
  rw[show List.range ([0,0]:List Int).length=[0,1] from rfl]
  exact List.mergeSort_of_pairwise (by simp[ahead])
 unfold maxZ
 rw[e]
 rfl
theorem zs1:scoreL zN [1]=[0,0]:=by decide +kernel
theorem zs2:scoreL zN [1,0]=[0,0]:=by decide +kernel
theorem zs3:scoreL zN [1,0,0]=[0,0]:=by decide +kernel
theorem zb:badE zN=0:=by decide +kernel
theorem zv:(List.range 2).map (meanF (outF zN (tokF [1])) 1)=[0,0]:=by decide +kernel
abbrev zQ (g kk LL SS:Int) (b:Nat):Aq:=⟨kk,some ⟨b,0,none⟩,1,1,LL,SS,0,0,0,0,0⟩
abbrev zR (t:MT) (kk LL SS:Int) (b:Nat):Rq:=⟨zN,t.E,t.L,t.N,t.O,⟨none,0,0⟩,zQ 0 kk LL SS b⟩
theorem zr_t (t:MT) (SS:Int) (b:Nat) (p:Int):∀ l,nxZ (zR t 1 3 SS b) [p] l=maxZ (scoreL zN (p :: l)):=fun l=>by unfold nxZ nextZ;rw[if_pos rfl];rfl
theorem zr_e1 (t:MT) (b:Nat):reqE (zR t 1 3 (-1) b) [1]=0:=by unfold reqE;rw[if_pos zb];kernel_rfl
theorem zr_e2 (t:MT) (b:Nat):reqE (zR t 1 3 0 b) [1]=0:=by unfold reqE;rw[if_pos zb];kernel_rfl
theorem zr_e3 (t:MT) (b:Nat):reqE (zR t 4 0 0 b) [1]=0:=by unfold reqE;rw[if_pos zb];kernel_rfl
theorem zr_e4 (t:MT) (b:Nat):reqE (zR t 1 1 0 b) [2]=1:=by unfold reqE;rw[if_pos zb];kernel_rfl
theorem zr_t1 (t:MT) (b:Nat):ansT (zR t 1 3 (-1) b) [1] []=[0,0,0]:=by
 unfold ansT
 rw[if_pos (zr_e1 t b),if_neg (show ¬(1:Int)=4 by decide),if_neg (show ¬(1:Int)=3 by decide)]
 unfold tokensZ
 rw[show (zR t 1 3 (-1) b).q.L.toNat=3 from rfl]
 simp[tokGo,zr_t,zs1,zs2,zs3,zm0]
theorem zr_t2 (t:MT) (b:Nat):ansT (zR t 1 3 0 b) [1] []=[0]:=by
 unfold ansT
 rw[if_pos (zr_e2 t b),if_neg (show ¬(1:Int)=4 by decide),if_neg (show ¬(1:Int)=3 by decide)]
 unfold tokensZ
 rw[show (zR t 1 3 0 b).q.L.toNat=3 from rfl]
 simp[tokGo,zr_t,zs1,zm0]
theorem zr_t3 (t:MT) (b:Nat):ansT (zR t 4 0 0 b) [1] []=[]:=by unfold ansT;rw[if_pos (zr_e3 t b),if_pos rfl]
theorem zr_t4 (t:MT) (b:Nat):ansT (zR t 1 1 0 b) [2] []=[]:=by unfold ansT;rw[if_neg (by rw[zr_e4];decide)]
theorem zr_v1 (t:MT) (b:Nat):ansV (zR t 1 3 (-1) b) [1]=[]:=by unfold ansV;rw[if_pos (zr_e1 t b),if_neg (show ¬(1:Int)=4 by decide)]
theorem zr_v2 (t:MT) (b:Nat):ansV (zR t 1 3 0 b) [1]=[]:=by unfold ansV;rw[if_pos (zr_e2 t b),if_neg (show ¬(1:Int)=4 by decide)]
theorem zr_v3 (t:MT) (b:Nat):ansV (zR t 4 0 0 b) [1]=[0,0]:=by unfold ansV;rw[if_pos (zr_e3 t b),if_pos rfl];exact zv
theorem zr_v4 (t:MT) (b:Nat):ansV (zR t 1 1 0 b) [2]=[]:=by unfold ansV;rw[if_neg (by rw[zr_e4];decide)]
theorem zr_call (t:MT) (kk LL SS p:Int) (b:Nat) (T V:List Int) (E:Int) (eT:ansT (zR t kk LL SS b) [p] []=T) (eV:ansV (zR t kk LL SS b) [p]=V) (eE:reqE (zR t kk LL SS b) [p]=E) (hk:kk≠3) (hL:(Lit.int .i64 LL).wf=true) (w:World) (hm:ModAt w t.E t.L t.N t.O t.Y t.U t.D zeroV) (hr:Reads .i64 w (some ⟨b,0,none⟩) 1 [p]) :
  Calls Tryz.prog 9 #[.agg (smc t),.agg #[.int .i64 0,.int .i64 0,.slice none 0 0],.agg (zQ 0 kk LL SS b).cs] w fun e w'=>AnsAt w.heap.size T V E e w'∧Below w.heap.size w w':=by
 have:=answer_call (zR t kk LL SS b) t.Y t.U t.D (fun _ _=>⟨none,0,0⟩) [p] [] w ⟨hm,NewA.none_ 0 w _ w (fun _ _ hp _=>hp),⟨(show (Lit.int .u64 0).wf=true by decide),hL,hr,fun h=>(by cases h),Nat.le_refl _⟩⟩ (fun _ h=>absurd h hk)
 rw[eT,eV,eE] at this
 exact this
theorem wp_build_of {P:Program} {o:Oper} {b:Act} {u:World} {K:Act→World→Prop} {Q:Exit→Act→World→Prop} (t:TypeId) (parts:Array (Nat × Operand)) (ho:o.op=.build t parts) (cs:Array Value)
  (hf:P.built t (parts.map fun (i,x)=>(i,b.eval x)).toList=some cs) (h:K (b.put o.dst (.agg cs)) u):o.wp P b u K Q :=
 wp_build t parts ho (by rw[hf];rfl) (by rw[hf];exact h)
def Ent.ans (T V:List Int) (E:Int):Ent:=.of (fun q u=>∃ ta tc va vc,q=.tuple #[.slice ta T.length tc,.slice va V.length vc,.int .i64 E]∧Reads .i64 u ta T.length T∧Reads .i64 u va V.length V) (fun _ _ _ hb ⟨ta,tc,va,vc,e,h,g⟩=>⟨ta,tc,va,vc,e,h.below hb,g.below hb⟩)
def Ent.one (p:Int):Ent:=.of (fun q u=>∃ b,q=.slice (some ⟨b,0,none⟩) 1 1∧Reads .i64 u (some ⟨b,0,none⟩) 1 [p]) (fun _ _ _ hb ⟨b,e,h⟩=>⟨b,e,h.below hb⟩)
def Ent.ask1 (kk LL SS p:Int):Ent:=.of (fun q u=>∃ b,q=.agg (zQ 0 kk LL SS b).cs∧Reads .i64 u (some ⟨b,0,none⟩) 1 [p]) (fun _ _ _ hb ⟨b,e,h⟩=>⟨b,e,h.below hb⟩)
theorem lit_row (l:List Int) (w:World) (hl:l.length≤9223372036854775807) (hw:∀ z∈l,(Lit.int .i64 z).wf=true):Reads .i64 (w.alloc (.cells (l.map (Value.int .i64)).toArray 3)) (some ⟨w.heap.size,0,none⟩) l.length l:=by
 have q:=Blk.new 3 w (l.map (Value.int .i64)).toArray
 refine Reads.of_row rfl hl hw fun i hi=>?_
 have e:(l.map (Value.int .i64)).toArray[i]? = some (.int .i64 (l.getD i 0)):=by simp[hi]
 have ea:(⟨w.heap.size,0,none⟩:Addr).add i=⟨w.heap.size,i,none⟩:=by simp[Addr.add];exact fun h=>h.symm
 rw[ea]
 exact q.cell i e
theorem works_call (w:World):Calls Tryz.prog 15 #[] w fun e w'=>e=.returned (.bool true)∧Below w.heap.size w w':=by
 have ks:=small_call
 have hb:=Below.refl w.heap.size w
 go_enter Tryz.func15,Tryz.ntmps15
 go_upto_region 1 with fail
 refine wp_region_tabS (G:=M34) (by kernel_rfl) (by kernel_rfl) rfl (fun u=>Below w.heap.size w u) [.eq (.agg #[.int .i64 2,.int .i64 1,.int .i64 1,.int .i64 2,.int .i64 1,.int .i64 0,.int .i64 0,.int .i64 0]),eRow,eShp,eShp,eMod,.eq (.int .i64 0),eAl w.heap.size,eSt,.eq (.int .i64 0)] (stores_ne _ rfl) (below_drew hb ⟨1,rfl⟩) ⟨?c0,?m1,?c2,?p3,?x4,?x5,?a6,?s7,?p8,trivial⟩ ?fin
 case c0 =>
  rintro b u - hS - K hK
  go_wp2_with (go_at_call 34;refine (ks _).mono ?_;rintro e W1 ⟨rfl,h⟩;exact hK _ _ h (below_then hS h) rfl)
 case m1 =>
  rintro b u - hS - K hK
  have hr:(Instr.makeSlice 31 (.int .i64 34) (.int .i64 34)).run Tryz.prog u=.ok (.slice (some ⟨u.heap.size,0,none⟩) 34 34) (u.alloc (.cells (Array.replicate 34 (.int .i8 0)) 118)):=by
   have h:=run_make_row' 31 118 (.int .i8 0) 1 Tryz.underlying31 info118 rfl .i64 .i64 34 (by omega) (by omega) u
   rw[show madeCells #[(Value.int .i8 0)] 34=Array.replicate 34 (.int .i8 0) from by kernel_rfl] at h
   exact h
  have hh:=hK (.slice (some ⟨u.heap.size,0,none⟩) 34 34) _ (below_new (Below.refl _ _) (.cells (Array.replicate 34 (.int .i8 0)) 118)) (below_new hS _) ⟨_,rfl,Blk.new 118 u _⟩
  dsimp only
  unfold Oper.wp
  simp only[execOp,Act.eval,Sem.run_bind,hr,Result.andThen_ok,Sem.run_pure]
  exact hh
 case c2 =>
  rintro b u - hS ⟨h1,h2,-⟩ K hK
  replace h1:=show b.tmps.getD 16 undef=.agg #[.int .i64 2,.int .i64 1,.int .i64 1,.int .i64 2,.int .i64 1,.int .i64 0,.int .i64 0,.int .i64 0] from h1
  obtain⟨yb,h2,hq⟩:=h2
  replace h2:=show b.tmps.getD 17 undef=_ from h2
  dsimp only
  go_wp2_with (go_at_call 33;refine (zero_shape _ yb (zero_row hq)).mono ?_;rintro e W1 ⟨t,rfl,ht,h⟩;exact hK _ _ h (below_then hS h) ⟨t,_,rfl,ht.at⟩)
 case p3 =>
  rintro b u - hS ⟨h1,-⟩ K hK
  exact hK _ _ (Below.refl _ _) hS h1
 case x4 =>
  rintro b u - hS ⟨h1,-⟩ K hK
  obtain⟨t,lo,h1,x⟩:=h1
  dsimp only
  go_simp
  exact hK _ _ (Below.refl _ _) hS ⟨t,lo,rfl,x⟩
 case x5 =>
  rintro b u - hS ⟨h1,-⟩ K hK
  obtain⟨t,lo,h1,x⟩:=h1
  dsimp only
  go_simp
  exact hK _ _ (Below.refl _ _) hS rfl
 case a6 =>
  rintro b u - hS - K hK
  dsimp only
  go_simp
  exact hK _ _ (below_new (Below.refl _ _) _) (below_new hS _) ⟨_,rfl,hS.size,_,rfl,Blk.new 34 u _⟩
 case s7 =>
  rintro b u - hS ⟨h1,h2,-⟩ K hK
  obtain⟨g,h1,hl,o,ho,hq⟩:=h1
  obtain⟨t,lo,h2,x⟩:=h2
  refine wp_store_row 34 (.tmp 1) (.tmp 19) rfl g (smc t) h1 h2 34 o hq rfl ho (by kernel_rfl) (hK undef _ ⟨g,⟨rfl,_,_,hq⟩,but_setRow hq ho.symm⟩ (below_setRow hS hl _) ⟨g,t,lo,h1,setRow_blk hq,x.step34 fun ty hty=>?_⟩)
  exact fun b cur fz _ e=>(setRow_other _ _ _ _ (fun hbg=>by subst hbg;rw[show u.heap[b]? = _ from hq] at e;cases e;exact hty rfl)).trans e
 case p8 =>
  rintro b u - hS ⟨h1,-⟩ K hK
  exact hK _ _ (Below.refl _ _) hS h1
 case fin =>
  rintro g u hb ⟨-,-,-,-,-,-,-,⟨v,⟨g1,t,lo,e1,q,x⟩,hv⟩,f8,-⟩
  have f1:g 1=.pointer (some ⟨g1,0,none⟩):=(hv (by kernel_rfl)).symm.trans e1
  replace f8:=show g 2=.int .i64 0 from f8
  simp only[List.filterMap,List.foldl,f1,f8,Act.put,List.setIfInBounds_toArray,List.set_cons_succ,List.set_cons_zero]
  clear f1 f8 hv e1 ks
  have mo:=x.mod
  go_upto_region 2 with fail
  refine wp_region_tab0 (by kernel_rfl) rfl (fun W=>Below u.heap.size u W∧Blk 34 W g1 (smc t)∧ModAt W t.E t.L t.N t.O t.Y t.U t.D zeroV) [.eq (.agg (smc t)),.eq (.agg #[.int .i64 0,.int .i64 0,.slice none 0 0]),.one 1,.ask1 1 3 (-1) 1,.ans [0,0,0] [] 0,.ans [0,0,0] [] 0,.nums 3 [0,0,0],.nums 0 [],.eq (.int .i64 0),.nums 3 [0,0,0],.nums 0 [],.eq (.int .i64 0)] ⟨Below.refl _ _,q,mo⟩ ⟨?lv2,?bv2,?sv2,?kv2,?cv2,?mv2,?xv2,?yv2,?zv2,?pv2,?qv2,?rv2,trivial⟩ ?fv2
  case lv2 =>
   rintro b u - hS ⟨h1,-⟩ K hK
   exact ask_load rfl h1 hS.2.1 Tryz.underlying34 rfl rfl (hK _ _ (Below.refl _ _) hS rfl)
  case bv2 =>
   rintro b u - hS - K hK
   dsimp only
   go_simp
   exact hK _ _ (Below.refl _ _) hS rfl
  case sv2 =>
   rintro b u - ⟨hb,hq,hm⟩ - K hK
   dsimp only
   go_simp
   exact hK _ _ (below_new (Below.refl _ _) _) ⟨below_new hb _,hq.kept (below_new (Below.refl _ _) _),hm.below (below_new (Below.refl _ _) _)⟩ ⟨_,rfl,lit1 .i64 u 3 _ rfl 1 (by decide)⟩
  case kv2 =>
   rintro b u - hS ⟨h1,-⟩ K hK
   obtain⟨g2,h1,hr⟩:=h1
   replace h1:=show b.eval (.tmp 24)=_ from h1
   exact wp_build_of 28 _ rfl (zQ 0 1 3 (-1) g2).cs (by rw[List.map_toArray];simp only[List.map,h1];kernel_rfl) (hK _ _ (Below.refl _ _) hS ⟨g2,rfl,hr⟩)
  case cv2 =>
   rintro b u - ⟨hb,hq,hm⟩ ⟨h1,h2,h3,-⟩ K hK
   replace h1:=show b.tmps.getD 22 undef=.agg (smc t) from h1
   replace h2:=show b.tmps.getD 23 undef=.agg #[.int .i64 0,.int .i64 0,.slice none 0 0] from h2
   obtain⟨g2,h3,hr⟩:=h3
   replace h3:=show b.tmps.getD 25 undef=_ from h3
   dsimp only
   go_wp2_with (go_at_call 9;refine (zr_call t 1 3 (-1) 1 g2 [0,0,0] [] 0 (zr_t1 t g2) (zr_v1 t g2) (zr_e1 t g2) (by decide) (by decide) _ hm hr).mono ?_;rintro e W1 ⟨⟨ta,tc,va,vc,rfl,rt,rv,-⟩,h⟩;exact hK _ _ h ⟨below_then hb h,hq.kept h,hm.below h⟩ ⟨ta,tc,va,vc,rfl,rt,rv⟩)
  case mv2 =>
   rintro b u - hS ⟨h1,-⟩ K hK
   exact hK _ _ (Below.refl _ _) hS h1
  case xv2 =>
   rintro b u - hS ⟨h1,-⟩ K hK
   obtain⟨ta,tc,va,vc,h1,rt,rv⟩:=h1
   dsimp only
   go_simp
   exact hK _ _ (Below.refl _ _) hS ⟨_,_,rfl,rt⟩
  case yv2 =>
   rintro b u - hS ⟨h1,-⟩ K hK
   obtain⟨ta,tc,va,vc,h1,rt,rv⟩:=h1
   dsimp only
   go_simp
   exact hK _ _ (Below.refl _ _) hS ⟨_,_,rfl,rv⟩
  case zv2 =>
   rintro b u - hS ⟨h1,-⟩ K hK
   obtain⟨ta,tc,va,vc,h1,rt,rv⟩:=h1
   dsimp only
   go_simp
   exact hK _ _ (Below.refl _ _) hS rfl
  case pv2 =>
   rintro b u - hS ⟨h1,-⟩ K hK
   exact hK _ _ (Below.refl _ _) hS h1
  case qv2 =>
   rintro b u - hS ⟨h1,-⟩ K hK
   exact hK _ _ (Below.refl _ _) hS h1
  case rv2 =>
   rintro b u - hS ⟨h1,-⟩ K hK
   exact hK _ _ (Below.refl _ _) hS h1
  rintro g u2 ⟨hx,q,mo⟩ ⟨-,-,-,-,-,-,-,-,-,⟨ta2,tc2,f1,rt2⟩,⟨va2,vc2,f2,rv2⟩,f3,-⟩
  replace f1:=show g 3=.slice ta2 _ tc2 from f1
  replace f2:=show g 4=.slice va2 _ vc2 from f2
  replace f3:=show g 5=.int .i64 0 from f3
  simp only[List.filterMap,List.foldl,f1,f2,f3,Act.put,List.setIfInBounds_toArray,List.set_cons_succ,List.set_cons_zero]
  clear f1 f2 f3
  replace hb:=below_then hb hx
  clear hx
  go_upto_region 3 with fail
  refine wp_region_tab0 (by kernel_rfl) rfl (fun W=>Below u2.heap.size u2 W∧Blk 34 W g1 (smc t)∧ModAt W t.E t.L t.N t.O t.Y t.U t.D zeroV) [.eq (.agg (smc t)),.eq (.agg #[.int .i64 0,.int .i64 0,.slice none 0 0]),.one 1,.ask1 1 3 0 1,.ans [0] [] 0,.ans [0] [] 0,.nums 1 [0],.nums 0 [],.eq (.int .i64 0),.nums 1 [0],.nums 0 [],.eq (.int .i64 0)] ⟨Below.refl _ _,q,mo⟩ ⟨?lv3,?bv3,?sv3,?kv3,?cv3,?mv3,?xv3,?yv3,?zv3,?pv3,?qv3,?rv3,trivial⟩ ?fv3
  case lv3 =>
   rintro b u - hS ⟨h1,-⟩ K hK
   exact ask_load rfl h1 hS.2.1 Tryz.underlying34 rfl rfl (hK _ _ (Below.refl _ _) hS rfl)
  case bv3 =>
   rintro b u - hS - K hK
   dsimp only
   go_simp
   exact hK _ _ (Below.refl _ _) hS rfl
  case sv3 =>
   rintro b u - ⟨hb,hq,hm⟩ - K hK
   dsimp only
   go_simp
   exact hK _ _ (below_new (Below.refl _ _) _) ⟨below_new hb _,hq.kept (below_new (Below.refl _ _) _),hm.below (below_new (Below.refl _ _) _)⟩ ⟨_,rfl,lit1 .i64 u 3 _ rfl 1 (by decide)⟩
  case kv3 =>
   rintro b u - hS ⟨h1,-⟩ K hK
   obtain⟨g2,h1,hr⟩:=h1
   replace h1:=show b.eval (.tmp 33)=_ from h1
   exact wp_build_of 28 _ rfl (zQ 0 1 3 0 g2).cs (by rw[List.map_toArray];simp only[List.map,h1];kernel_rfl) (hK _ _ (Below.refl _ _) hS ⟨g2,rfl,hr⟩)
  case cv3 =>
   rintro b u - ⟨hb,hq,hm⟩ ⟨h1,h2,h3,-⟩ K hK
   replace h1:=show b.tmps.getD 31 undef=.agg (smc t) from h1
   replace h2:=show b.tmps.getD 32 undef=.agg #[.int .i64 0,.int .i64 0,.slice none 0 0] from h2
   obtain⟨g2,h3,hr⟩:=h3
   replace h3:=show b.tmps.getD 34 undef=_ from h3
   dsimp only
   go_wp2_with (go_at_call 9;refine (zr_call t 1 3 0 1 g2 [0] [] 0 (zr_t2 t g2) (zr_v2 t g2) (zr_e2 t g2) (by decide) (by decide) _ hm hr).mono ?_;rintro e W1 ⟨⟨ta,tc,va,vc,rfl,rt,rv,-⟩,h⟩;exact hK _ _ h ⟨below_then hb h,hq.kept h,hm.below h⟩ ⟨ta,tc,va,vc,rfl,rt,rv⟩)
  case mv3 =>
   rintro b u - hS ⟨h1,-⟩ K hK
   exact hK _ _ (Below.refl _ _) hS h1
  case xv3 =>
   rintro b u - hS ⟨h1,-⟩ K hK
   obtain⟨ta,tc,va,vc,h1,rt,rv⟩:=h1
   dsimp only
   go_simp
   exact hK _ _ (Below.refl _ _) hS ⟨_,_,rfl,rt⟩
  case yv3 =>
   rintro b u - hS ⟨h1,-⟩ K hK
   obtain⟨ta,tc,va,vc,h1,rt,rv⟩:=h1
   dsimp only
   go_simp
   exact hK _ _ (Below.refl _ _) hS ⟨_,_,rfl,rv⟩
  case zv3 =>
   rintro b u - hS ⟨h1,-⟩ K hK
   obtain⟨ta,tc,va,vc,h1,rt,rv⟩:=h1
   dsimp only
   go_simp
   exact hK _ _ (Below.refl _ _) hS rfl
  case pv3 =>
   rintro b u - hS ⟨h1,-⟩ K hK
   exact hK _ _ (Below.refl _ _) hS h1
  case qv3 =>
   rintro b u - hS ⟨h1,-⟩ K hK
   exact hK _ _ (Below.refl _ _) hS h1
  case rv3 =>
   rintro b u - hS ⟨h1,-⟩ K hK
   exact hK _ _ (Below.refl _ _) hS h1
  rintro g u3 ⟨hx,q,mo⟩ ⟨-,-,-,-,-,-,-,-,-,⟨ta3,tc3,f1,rt3⟩,⟨va3,vc3,f2,rv3⟩,f3,-⟩
  replace f1:=show g 6=.slice ta3 _ tc3 from f1
  replace f2:=show g 7=.slice va3 _ vc3 from f2
  replace f3:=show g 8=.int .i64 0 from f3
  simp only[List.filterMap,List.foldl,f1,f2,f3,Act.put,List.setIfInBounds_toArray,List.set_cons_succ,List.set_cons_zero]
  clear f1 f2 f3
  replace hb:=below_then hb hx
  replace rt2:=rt2.below hx
  clear hx
  go_upto_region 4 with fail
  refine wp_region_tab0 (by kernel_rfl) rfl (fun W=>Below u3.heap.size u3 W∧Blk 34 W g1 (smc t)∧ModAt W t.E t.L t.N t.O t.Y t.U t.D zeroV) [.eq (.agg (smc t)),.eq (.agg #[.int .i64 0,.int .i64 0,.slice none 0 0]),.one 1,.ask1 4 0 0 1,.ans [] [0,0] 0,.ans [] [0,0] 0,.nums 0 [],.nums 2 [0,0],.eq (.int .i64 0),.nums 0 [],.nums 2 [0,0],.eq (.int .i64 0)] ⟨Below.refl _ _,q,mo⟩ ⟨?lv4,?bv4,?sv4,?kv4,?cv4,?mv4,?xv4,?yv4,?zv4,?pv4,?qv4,?rv4,trivial⟩ ?fv4
  case lv4 =>
   rintro b u - hS ⟨h1,-⟩ K hK
   exact ask_load rfl h1 hS.2.1 Tryz.underlying34 rfl rfl (hK _ _ (Below.refl _ _) hS rfl)
  case bv4 =>
   rintro b u - hS - K hK
   dsimp only
   go_simp
   exact hK _ _ (Below.refl _ _) hS rfl
  case sv4 =>
   rintro b u - ⟨hb,hq,hm⟩ - K hK
   dsimp only
   go_simp
   exact hK _ _ (below_new (Below.refl _ _) _) ⟨below_new hb _,hq.kept (below_new (Below.refl _ _) _),hm.below (below_new (Below.refl _ _) _)⟩ ⟨_,rfl,lit1 .i64 u 3 _ rfl 1 (by decide)⟩
  case kv4 =>
   rintro b u - hS ⟨h1,-⟩ K hK
   obtain⟨g2,h1,hr⟩:=h1
   replace h1:=show b.eval (.tmp 42)=_ from h1
   exact wp_build_of 28 _ rfl (zQ 0 4 0 0 g2).cs (by rw[List.map_toArray];simp only[List.map,h1];kernel_rfl) (hK _ _ (Below.refl _ _) hS ⟨g2,rfl,hr⟩)
  case cv4 =>
   rintro b u - ⟨hb,hq,hm⟩ ⟨h1,h2,h3,-⟩ K hK
   replace h1:=show b.tmps.getD 40 undef=.agg (smc t) from h1
   replace h2:=show b.tmps.getD 41 undef=.agg #[.int .i64 0,.int .i64 0,.slice none 0 0] from h2
   obtain⟨g2,h3,hr⟩:=h3
   replace h3:=show b.tmps.getD 43 undef=_ from h3
   dsimp only
   go_wp2_with (go_at_call 9;refine (zr_call t 4 0 0 1 g2 [] [0,0] 0 (zr_t3 t g2) (zr_v3 t g2) (zr_e3 t g2) (by decide) (by decide) _ hm hr).mono ?_;rintro e W1 ⟨⟨ta,tc,va,vc,rfl,rt,rv,-⟩,h⟩;exact hK _ _ h ⟨below_then hb h,hq.kept h,hm.below h⟩ ⟨ta,tc,va,vc,rfl,rt,rv⟩)
  case mv4 =>
   rintro b u - hS ⟨h1,-⟩ K hK
   exact hK _ _ (Below.refl _ _) hS h1
  case xv4 =>
   rintro b u - hS ⟨h1,-⟩ K hK
   obtain⟨ta,tc,va,vc,h1,rt,rv⟩:=h1
   dsimp only
   go_simp
   exact hK _ _ (Below.refl _ _) hS ⟨_,_,rfl,rt⟩
  case yv4 =>
   rintro b u - hS ⟨h1,-⟩ K hK
   obtain⟨ta,tc,va,vc,h1,rt,rv⟩:=h1
   dsimp only
   go_simp
   exact hK _ _ (Below.refl _ _) hS ⟨_,_,rfl,rv⟩
  case zv4 =>
   rintro b u - hS ⟨h1,-⟩ K hK
   obtain⟨ta,tc,va,vc,h1,rt,rv⟩:=h1
   dsimp only
   go_simp
   exact hK _ _ (Below.refl _ _) hS rfl
  case pv4 =>
   rintro b u - hS ⟨h1,-⟩ K hK
   exact hK _ _ (Below.refl _ _) hS h1
  case qv4 =>
   rintro b u - hS ⟨h1,-⟩ K hK
   exact hK _ _ (Below.refl _ _) hS h1
  case rv4 =>
   rintro b u - hS ⟨h1,-⟩ K hK
   exact hK _ _ (Below.refl _ _) hS h1
  rintro g u4 ⟨hx,q,mo⟩ ⟨-,-,-,-,-,-,-,-,-,⟨ta4,tc4,f1,rt4⟩,⟨va4,vc4,f2,rv4⟩,f3,-⟩
  replace f1:=show g 9=.slice ta4 _ tc4 from f1
  replace f2:=show g 10=.slice va4 _ vc4 from f2
  replace f3:=show g 11=.int .i64 0 from f3
  simp only[List.filterMap,List.foldl,f1,f2,f3,Act.put,List.setIfInBounds_toArray,List.set_cons_succ,List.set_cons_zero]
  clear f1 f2 f3
  replace hb:=below_then hb hx
  replace rt2:=rt2.below hx
  replace rt3:=rt3.below hx
  clear hx
  go_upto_region 5 with fail
  refine wp_region_tab0 (by kernel_rfl) rfl (fun W=>Below u4.heap.size u4 W∧Blk 34 W g1 (smc t)∧ModAt W t.E t.L t.N t.O t.Y t.U t.D zeroV) [.eq (.agg (smc t)),.eq (.agg #[.int .i64 0,.int .i64 0,.slice none 0 0]),.one 2,.ask1 1 1 0 2,.ans [] [] 1,.ans [] [] 1,.nums 0 [],.nums 0 [],.eq (.int .i64 1),.nums 0 [],.nums 0 [],.eq (.int .i64 1)] ⟨Below.refl _ _,q,mo⟩ ⟨?lv5,?bv5,?sv5,?kv5,?cv5,?mv5,?xv5,?yv5,?zv5,?pv5,?qv5,?rv5,trivial⟩ ?fv5
  case lv5 =>
   rintro b u - hS ⟨h1,-⟩ K hK
   exact ask_load rfl h1 hS.2.1 Tryz.underlying34 rfl rfl (hK _ _ (Below.refl _ _) hS rfl)
  case bv5 =>
   rintro b u - hS - K hK
   dsimp only
   go_simp
   exact hK _ _ (Below.refl _ _) hS rfl
  case sv5 =>
   rintro b u - ⟨hb,hq,hm⟩ - K hK
   dsimp only
   go_simp
   exact hK _ _ (below_new (Below.refl _ _) _) ⟨below_new hb _,hq.kept (below_new (Below.refl _ _) _),hm.below (below_new (Below.refl _ _) _)⟩ ⟨_,rfl,lit1 .i64 u 3 _ rfl 2 (by decide)⟩
  case kv5 =>
   rintro b u - hS ⟨h1,-⟩ K hK
   obtain⟨g2,h1,hr⟩:=h1
   replace h1:=show b.eval (.tmp 51)=_ from h1
   exact wp_build_of 28 _ rfl (zQ 0 1 1 0 g2).cs (by rw[List.map_toArray];simp only[List.map,h1];kernel_rfl) (hK _ _ (Below.refl _ _) hS ⟨g2,rfl,hr⟩)
  case cv5 =>
   rintro b u - ⟨hb,hq,hm⟩ ⟨h1,h2,h3,-⟩ K hK
   replace h1:=show b.tmps.getD 49 undef=.agg (smc t) from h1
   replace h2:=show b.tmps.getD 50 undef=.agg #[.int .i64 0,.int .i64 0,.slice none 0 0] from h2
   obtain⟨g2,h3,hr⟩:=h3
   replace h3:=show b.tmps.getD 52 undef=_ from h3
   dsimp only
   go_wp2_with (go_at_call 9;refine (zr_call t 1 1 0 2 g2 [] [] 1 (zr_t4 t g2) (zr_v4 t g2) (zr_e4 t g2) (by decide) (by decide) _ hm hr).mono ?_;rintro e W1 ⟨⟨ta,tc,va,vc,rfl,rt,rv,-⟩,h⟩;exact hK _ _ h ⟨below_then hb h,hq.kept h,hm.below h⟩ ⟨ta,tc,va,vc,rfl,rt,rv⟩)
  case mv5 =>
   rintro b u - hS ⟨h1,-⟩ K hK
   exact hK _ _ (Below.refl _ _) hS h1
  case xv5 =>
   rintro b u - hS ⟨h1,-⟩ K hK
   obtain⟨ta,tc,va,vc,h1,rt,rv⟩:=h1
   dsimp only
   go_simp
   exact hK _ _ (Below.refl _ _) hS ⟨_,_,rfl,rt⟩
  case yv5 =>
   rintro b u - hS ⟨h1,-⟩ K hK
   obtain⟨ta,tc,va,vc,h1,rt,rv⟩:=h1
   dsimp only
   go_simp
   exact hK _ _ (Below.refl _ _) hS ⟨_,_,rfl,rv⟩
  case zv5 =>
   rintro b u - hS ⟨h1,-⟩ K hK
   obtain⟨ta,tc,va,vc,h1,rt,rv⟩:=h1
   dsimp only
   go_simp
   exact hK _ _ (Below.refl _ _) hS rfl
  case pv5 =>
   rintro b u - hS ⟨h1,-⟩ K hK
   exact hK _ _ (Below.refl _ _) hS h1
  case qv5 =>
   rintro b u - hS ⟨h1,-⟩ K hK
   exact hK _ _ (Below.refl _ _) hS h1
  case rv5 =>
   rintro b u - hS ⟨h1,-⟩ K hK
   exact hK _ _ (Below.refl _ _) hS h1
  rintro g u5 ⟨hx,q,mo⟩ ⟨-,-,-,-,-,-,-,-,-,⟨ta5,tc5,f1,rt5⟩,⟨va5,vc5,f2,rv5⟩,f3,-⟩
  replace f1:=show g 12=.slice ta5 _ tc5 from f1
  replace f2:=show g 13=.slice va5 _ vc5 from f2
  replace f3:=show g 14=.int .i64 1 from f3
  simp only[List.filterMap,List.foldl,f1,f2,f3,Act.put,List.setIfInBounds_toArray,List.set_cons_succ,List.set_cons_zero]
  clear f1 f2 f3
  replace hb:=below_then hb hx
  replace rt2:=rt2.below hx
  replace rt3:=rt3.below hx
  replace rv4:=rv4.below hx
  clear hx
  have mo0:=hb
  clear q mo rv2 rv3 rt4 rv5 rt5 mo0
  have k6:∀ (W:World),Calls Tryz.prog 35 #[.agg #[.int .i64 2,.int .i64 1,.int .i64 1,.int .i64 2,.int .i64 1,.int .i64 0,.int .i64 0,.int .i64 0],.agg (zQ 0 1 24 0 W.heap.size).cs] (W.alloc (.cells #[.int .i64 1] 3)) fun e w'=>e=.returned (.int .i64 4)∧Below (W.alloc (.cells #[.int .i64 1] 3)).heap.size (W.alloc (.cells #[.int .i64 1] 3)) w':=fun W=>by
   have:=akcheck_call ⟨2,1,1,2,1,0,0,0⟩ (zQ 0 1 24 0 W.heap.size) [1] (W.alloc (.cells #[.int .i64 1] 3)) (lit_row [1] W (by decide) (by decide))
   have e:checkZ ⟨2,1,1,2,1,0,0,0⟩ (zQ 0 1 24 0 W.heap.size) [1]=4:=by kernel_rfl
   rwa [e] at this
  go_wp2_with (first
   | (go_at_call 14;refine (same_ints ta2 3 tc2 [0,0,0] (some ⟨u5.heap.size,0,none⟩) 3 3 _ (rt2.below (below_new (Below.refl _ _) _)) (lit_row [0,0,0] u5 (by decide) (by decide))).mono ?_;rintro e V1 ⟨rfl,h⟩;have hx:=below_then (below_new (Below.refl u5.heap.size u5) (.cells #[.int .i64 0,.int .i64 0,.int .i64 0] 3)) h;replace hb:=below_then hb hx;replace rt3:=rt3.below hx;replace rv4:=rv4.below hx;clear h hx rt2)
   | (go_at_call 14;refine (same_ints ta3 1 tc3 [0] (some ⟨V1.heap.size,0,none⟩) 1 1 _ (rt3.below (below_new (Below.refl _ _) _)) (lit_row [0] V1 (by decide) (by decide))).mono ?_;rintro e V2 ⟨rfl,h⟩;have hx:=below_then (below_new (Below.refl V1.heap.size V1) (.cells #[.int .i64 0] 3)) h;replace hb:=below_then hb hx;replace rv4:=rv4.below hx;clear h hx rt3)
   | (go_at_call 14;refine (same_ints va4 2 vc4 [0,0] (some ⟨V2.heap.size,0,none⟩) 2 2 _ (rv4.below (below_new (Below.refl _ _) _)) (lit_row [0,0] V2 (by decide) (by decide))).mono ?_;rintro e V3 ⟨rfl,h⟩;have hx:=below_then (below_new (Below.refl V2.heap.size V2) (.cells #[.int .i64 0,.int .i64 0] 3)) h;replace hb:=below_then hb hx;clear h hx rv4)
   | (go_at_call 34;refine (small_call _).mono ?_;rintro e V4 ⟨rfl,h⟩;replace hb:=below_then hb h;clear h)
   | (go_at_call 35;refine (k6 _).mono ?_;rintro e V5 ⟨rfl,h⟩;replace hb:=below_then (below_new hb _) h;clear h k6))
  go_ret
  exact⟨rfl,hb⟩
end
end Go.Proofs.YtbkjhfmehemgpaaGreat

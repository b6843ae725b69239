/- Texts put together. -/
import Derived.Test.YthliomlmhfjhnaaGreatRows
import Derived.Test.YthliomlmhfjhnaaGreatZpA
import Derived.Below
import Derived.BigQuiet
import Derived.Deep.QuietTactic
import Derived.OpenShut
import Derived.ProofKit
import Derived.WalkKit
import Derived.WalkLawsBesides
import Derived.Deep.RegionWith
import Derived.Orders
import Derived.Shelf.Abstract
import Derived.Deep.RegionHeld3
namespace Go.Proofs.YthliomlmhfjhnaaGreat
set_option maxRecDepth 20000
set_option maxHeartbeats 16000000
open Go.ChangeShapes Go.WideShapes Go.ChangeAt Go.RowKit
set_option linter.unusedVariables false
set_option linter.unusedSimpArgs false
theorem hdn {p:Prop}(h:p):Hid p:=h
structure Held (mb cb ln lc ne:Nat) (LA:Addr) (UA DA:Nat→Addr) (uc dc:Nat→Nat) (d v u x:Int) (W:World):Prop where
 c9:W.cell? ⟨mb,9,none⟩=some (.slice (some LA) ln lc)
 d0:W.cell? ⟨cb,0,none⟩=some (I4 d)
 d3:W.cell? ⟨cb,3,none⟩=some (I4 v)
 d4:W.cell? ⟨cb,4,none⟩=some (I4 u)
 d5:W.cell? ⟨cb,5,none⟩=some (I4 x)
 up:∀ i,i<ln→W.cell? ⟨(LA.add (i*9)).block,(LA.add (i*9)).off+7,none⟩=some (.slice (some (UA i)) ne (uc i))
 dn:∀ i,i<ln→W.cell? ⟨(LA.add (i*9)).block,(LA.add (i*9)).off+8,none⟩=some (.slice (some (DA i)) ne (dc i))
theorem Qlf:(Tryz.prog.info? 73).map (fun i=>(i.zero,i.size,i.bytes))=some (some (.int .i8 0),1,1):=by kernel_rfl
section
theorem sOp {ops:Array Oper}{i:Nat}{o o':Oper}(h:ops[i]?=some o)(k:ops[i]?=some o'):o=o':=Option.some.inj (h.symm.trans k)
def lowB (ops:Array Oper):Bool:=(List.range ops.size).all fun i=>((ops[i]?).map fun o=>o.after.all fun e=>!Region.binds .any e || decide (e.on<i)).getD true
theorem Qn9 {ops:Array Oper}(h:lowB ops=true){i:Nat}{o:Oper}(hi:ops[i]? = some o):∀ e∈o.after,Region.binds .any e=true→e.on<i:=by
 intro e he hb
 have hlt:i<ops.size:=(Array.getElem?_eq_some_iff.1 hi).1
 have:=List.all_eq_true.1 h i (List.mem_range.2 hlt)
 simp only[hi,Option.map_some,Option.getD_some] at this
 have:=(Array.all_eq_true_iff_forall_mem.1 this) e he
 simp only[hb,Bool.not_true,Bool.false_or,decide_eq_true_eq] at this
 exact this
theorem QjU {ops:Array Oper}(h:lowB ops=true){listed:Array Bool}(hr:Region.ready .any ops listed=[])(hs:listed.size=ops.size):∀ i,i<ops.size→listed.getD i false=true:=by
 intro i
 induction i using Nat.strongRecOn with
 | _ i ih =>
  intro hi
  cases hl:listed.getD i false with
  | true=>rfl
  | false =>
   exfalso
   have ho:ops[i]? = some ops[i]:=by simp[hi]
   have:i∈Region.ready .any ops listed:=mem_ready.2 ⟨by
    rw[Array.getD_eq_getD_getElem?] at hl ⊢
    rw[Array.getElem?_eq_getElem (by omega)] at hl ⊢
    simpa using hl,ops[i],ho,fun e he hb=>by
     have:=Qn9 h ho e he hb
     exact ih e.on this (by omega)⟩
   rw[hr] at this
   cases this
theorem QaZ {P:Program}{ops:Array Oper}{Q:Exit→Act→World→Prop}{id:Nat}{a:Act}{w:World}(hm:P.follows .mixedOrders=true)(hB:lowB ops=true)(I:(Nat→Bool)→Act→World→Prop)
  (h0:I (fun _=>false) a { w with drawn:=w.drawn+1 })
  (step:∀ l i o a w,ops[i]? = some o→l i=false→(∀ e∈o.after,Region.binds .any e=true→l e.on=true)→I l a w→wpOp P ops Q i (fun a' w'=>I (fun j=>l j || j==i) a' w') a w)
  (fin:∀ l a w,(∀ i,i<ops.size→l i=true)→I l a w→Q .normal a w):(Code.region id ops true).wp P Q a w:=by
 refine wp_region_any hm ?_
 have key:∀ fuel (listed:Array Bool) a w,listed.size=ops.size→listed.toList.countP (fun b=>!b)≤fuel→I (fun j=>listed.getD j false) a w→wpAny P .any ops Q fuel listed a w:=by
  intro fuel
  induction fuel with
  | zero =>
   intro listed a w hs hc hI
   have all:∀ i,i<listed.size→listed.getD i false=true:=fun i hi=>by
    have h1:listed.toList.countP (fun b=>!b)=0:=by omega
    have:=(List.countP_eq_zero.1 h1) listed[i] (by simp)
    rw[Array.getD_eq_getD_getElem?,Array.getElem?_eq_getElem hi]
    simpa using this
   have hr:Region.ready .any ops listed=[]:=by
    apply List.eq_nil_iff_forall_not_mem.2
    intro j hj
    obtain⟨h1,o,ho,_⟩:=mem_ready.1 hj
    have hlt:j<listed.size:=by rw[hs];exact (Array.getElem?_eq_some_iff.1 ho).1
    have:=all j hlt
    rw[Array.getD_eq_getD_getElem?,Array.getElem?_eq_getElem hlt] at h1 this
    simp at h1 this
    rw[h1] at this
    cases this
   exact⟨hr,fin _ a w (fun i hi=>all i (by omega)) hI⟩
  | succ fuel ih =>
   intro listed a w hs hc hI
   refine⟨fun hr=>fin _ a w (QjU hB hr hs) hI,fun i hi=>?_⟩
   obtain⟨h1,o,ho,hd⟩:=mem_ready.1 hi
   have hlt:i<listed.size:=by rw[hs];exact (Array.getElem?_eq_some_iff.1 ho).1
   have hf:listed[i]=false:=by
    rw[Array.getD_eq_getD_getElem?,Array.getElem?_eq_getElem hlt] at h1
    simpa using h1
   refine wpOp_mono ?_ (step _ i o a w ho (by rw[Array.getD_eq_getD_getElem?,Array.getElem?_eq_getElem hlt];simpa using hf) hd hI)
   intro a' w' hI'
   refine ih _ a' w' (by simp[hs]) ?_ ?_
   ·have h2:(listed.setIfInBounds i true).toList=listed.toList.set i true:=by simp
    rw[h2,List.countP_set (by simpa using hlt)]
    have h3:0<listed.toList.countP (fun b=>!b):=List.countP_pos_iff.2 ⟨listed[i],by simp,by simp[hf]⟩
    rw[if_pos (by simp[hf]),if_neg (by simp)]
    omega
   ·have e:(fun j=>(listed.setIfInBounds i true).getD j false)=fun j=>listed.getD j false || j==i:=by
     funext j
     by_cases hj:i=j
     ·subst hj
      simp[Array.getD_eq_getD_getElem?,hlt]
     ·rw[getD_set_ne false hj]
      have:(j==i)=false:=by simp;omega
      rw[this,Bool.or_false]
    rw[e]
    exact hI'
 refine key _ _ _ _ (by simp) ?_ ?_
 ·refine Nat.le_trans List.countP_le_length ?_
  simp
 ·have e:(fun j=>(Array.replicate ops.size false).getD j false)=fun _=>false:=by
   funext j
   rw[Array.getD_eq_getD_getElem?,Array.getElem?_replicate]
   split<;>rfl
  rw[e]
  exact h0
theorem wVa {P:Program}{ops:Array Oper}{Q:Exit→Act→World→Prop}{i:Nat}{o:Oper}{a:Act}{w w':World}{v:Value}{K:Act→World→Prop}(ho:ops[i]? = some o)(hg:o.guard=none)(hr:(execOp a.eval o).run P w=.ok (.value v) w')(hK:K (a.put o.dst v) w'):wpOp P ops Q i K a w:=by
 unfold wpOp
 simp only[ho]
 have hw:Region.wanted o (yielded ops a.tmps)=true:=by simp[Region.wanted,hg]
 rw[if_pos hw]
 refine .inl ?_
 unfold Oper.wp
 rw[hr]
 exact hK
theorem wSk {P:Program}{ops:Array Oper}{Q:Exit→Act→World→Prop}{i:Nat}{o:Oper}{a:Act}{w w':World}{K:Act→World→Prop}(ho:ops[i]? = some o)(hg:o.guard=none)(hr:(execOp a.eval o).run P w=.ok .skip w')(hK:K (a.put o.dst undef) w'):wpOp P ops Q i K a w:=by
 unfold wpOp
 simp only[ho]
 have hw:Region.wanted o (yielded ops a.tmps)=true:=by simp[Region.wanted,hg]
 rw[if_pos hw]
 refine .inl ?_
 unfold Oper.wp
 rw[hr]
 exact hK
theorem Qby (a:Act)(d:Tmp)(v:Value)(s:Nat)(h:d<a.tmps.size):(a.put (some d) v).tmps.getD s undef=if s=d then v else a.tmps.getD s undef:=by
 show (a.tmps.setIfInBounds d v).getD s undef=_
 rw[Array.getD_eq_getD_getElem?,Array.getElem?_setIfInBounds]
 by_cases e:d=s
 ·subst e
  simp[h]
 ·rw[if_neg e,if_neg (Ne.symm e),Array.getD_eq_getD_getElem?]
theorem wCa {P:Program}{ops:Array Oper}{Q:Exit→Act→World→Prop}{i:Nat}{o:Oper}{a:Act}{w:World}{f:FuncId}{args:Array Value}{K:Act→World→Prop}(ho:ops[i]? = some o)(hg:o.guard=none)(hr:(execOp a.eval o).run P w=.ok (.enter f args) w)
  (c:Calls P f args w fun e w'=>∃ v,e=.returned v∧K (a.put o.dst v) w'):wpOp P ops Q i K a w:=by
 unfold wpOp
 simp only[ho]
 have hw:Region.wanted o (yielded ops a.tmps)=true:=by simp[Region.wanted,hg]
 rw[if_pos hw]
 refine .inl ?_
 unfold Oper.wp
 rw[hr]
 unfold Oper.upon
 refine c.mono ?_
 rintro e w' ⟨v,rfl,hK⟩
 exact hK
structure Inv (N:Nat) (D:Nat→Option Nat) (a0:Act) (R:(Nat→Bool)→Act→World→Prop) (F:(Nat→Bool)→Nat→Value→World→Prop) (l:Nat→Bool) (a:Act) (w:World):Prop where
 size:a.tmps.size=a0.tmps.size
 defers:a.defers=a0.defers
 kept:∀ s,(∀ i,i<N→D i≠some s)→a.tmps.getD s undef=a0.tmps.getD s undef
 world:R l a w
 val:∀ i d,i<N→D i=some d→l i=true→F l i (a.tmps.getD d undef) w
variable {N:Nat}{D:Nat→Option Nat}{a0:Act}{R:(Nat→Bool)→Act→World→Prop}{F:(Nat→Bool)→Nat→Value→World→Prop}{l:Nat→Bool}{a:Act}{w:World}
theorem Inv.start (hw:R (fun _=>false) a0 w):Inv N D a0 R F (fun _=>false) a0 w:=⟨rfl,rfl,fun _ _=>rfl,hw,fun _ _ _ _ h=>by cases h⟩
theorem Inv.put (h:Inv N D a0 R F l a w){i d:Nat}{v:Value}{w':World}(hi:i<N)(hD:D i=some d)(hd:d<a0.tmps.size)(inj:∀ j d',j<N→D j=some d'→j≠i→d'≠d)
  (hR:R (fun j=>l j || j==i) (a.put (some d) v) w') (hF:F (fun j=>l j || j==i) i v w') (mono:∀ j u,j<N→l j=true→j≠i→F l j u w→F (fun j=>l j || j==i) j u w') :
  Inv N D a0 R F (fun j=>l j || j==i) (a.put (some d) v) w':=by
 have hd':d<a.tmps.size:=by rw[h.size];exact hd
 refine⟨by show (a.tmps.setIfInBounds d v).size=_;rw[Array.size_setIfInBounds];exact h.size,h.defers,fun s hs=>?_,hR,fun j d' hj hDj hl=>?_⟩
 ·rw[Qby a d v s hd',if_neg (fun e=>hs i hi (by rw[e];exact hD))]
  exact h.kept s hs
 ·rw[Qby a d v d' hd']
  by_cases e:j=i
  ·subst e
   obtain rfl:=Option.some.inj (hD.symm.trans hDj)
   rw[if_pos rfl]
   exact hF
  ·rw[if_neg (inj j d' hj hDj e)]
   have hl':l j=true:=by simpa [e] using hl
   exact mono j _ hj hl' e (h.val j d' hj hDj hl')
theorem Inv.none_ (h:Inv N D a0 R F l a w){i:Nat}{w':World}(hD:D i=none)(hR:R (fun j=>l j || j==i) a w')(mono:∀ j u,j<N→l j=true→j≠i→F l j u w→F (fun j=>l j || j==i) j u w') :
  Inv N D a0 R F (fun j=>l j || j==i) a w':=by
 refine⟨h.size,h.defers,h.kept,hR,fun j d' hj hDj hl=>?_⟩
 have e:j≠i:=fun e=>by rw[e,hD] at hDj;cases hDj
 have hl':l j=true:=by simpa [e] using hl
 exact mono j _ hj hl' e (h.val j d' hj hDj hl')
theorem fPu {a:Act}(W:List Nat):∀ {b:Act},a.tmps.size=b.tmps.size→a.defers=b.defers→(∀ s,s ∉ W→a.tmps.getD s undef=b.tmps.getD s undef)→a=W.foldl (fun b s=>b.put (some s) (a.tmps.getD s undef)) b:=by
 induction W with
 | nil =>
  intro b hs hd hk
  obtain⟨ta,da⟩:=a
  obtain⟨tb,db⟩:=b
  simp only at hs hd hk
  subst hd
  show Act.mk ta da=Act.mk tb da
  congr 1
  apply Array.ext hs
  intro i h1 h2
  have:=hk i (by simp)
  simpa [Array.getD_eq_getD_getElem?,h1,h2] using this
 | cons s W ih =>
  intro b hs hd hk
  refine ih ?_ ?_ ?_
  ·show _=(b.tmps.setIfInBounds s _).size
   rw[Array.size_setIfInBounds]
   exact hs
  ·exact hd
  ·intro s' h'
   by_cases h1:s<b.tmps.size
   ·rw[Qby b s _ s' h1]
    by_cases e:s'=s
    ·rw[if_pos e,e]
    ·rw[if_neg e]
     exact hk s' (by simp[e,h'])
   ·have e1:(b.put (some s) (a.tmps.getD s undef)).tmps=b.tmps:=by show b.tmps.setIfInBounds s _=_;rw[Array.setIfInBounds_eq_of_size_le (by omega)]
    rw[e1]
    by_cases e:s'=s
    ·subst e
     rw[Array.getD_eq_getD_getElem?,Array.getD_eq_getD_getElem?,Array.getElem?_eq_none (by omega),Array.getElem?_eq_none (by omega)]
    ·exact hk s' (by simp[e,h'])
def Qfz (ops:Array Oper)(l:Nat→Bool):Prop:=∀ i o,ops[i]? = some o→l i=true→∀ e∈o.after,Region.binds .any e=true→l e.on=true
theorem wRi {P:Program}{ops:Array Oper}{Q:Exit→Act→World→Prop}{id:Nat}{a:Act}{w:World}(hm:P.follows .mixedOrders=true)(hB:lowB ops=true)(I:(Nat→Bool)→Act→World→Prop)
  (h0:I (fun _=>false) a { w with drawn:=w.drawn+1 })
  (step:∀ l i o a w,ops[i]? = some o→l i=false→Qfz ops l→(∀ e∈o.after,Region.binds .any e=true→l e.on=true)→I l a w→wpOp P ops Q i (fun a' w'=>I (fun j=>l j || j==i) a' w') a w)
  (fin:∀ l a w,(∀ i,i<ops.size→l i=true)→I l a w→Q .normal a w):(Code.region id ops true).wp P Q a w:=by
 refine QaZ hm hB (fun l a w=>Qfz ops l∧I l a w) ⟨(fun i o _ h=>by cases h),h0⟩ ?_ ?_
 ·rintro l i o a w ho hl hdep ⟨hc,hI⟩
  refine wpOp_mono ?_ (step l i o a w ho hl hc hdep hI)
  intro a' w' hI'
  refine⟨fun j o' ho' hj e he hb=>?_,hI'⟩
  simp only[Bool.or_eq_true,beq_iff_eq] at hj ⊢
  rcases hj with hj|hj
  ·exact .inl (hc j o' ho' hj e he hb)
  ·subst hj
   obtain rfl:=Option.some.inj (ho.symm.trans ho')
   exact .inl (hdep e he hb)
 ·rintro l a w hall ⟨_,hI⟩
  exact fin l a w hall hI
theorem dPo {o:Oper}{l:Nat→Bool}{deps:List Nat}(hp:deps.all (fun d=>o.after.any fun e=>e.on==d && Region.binds .any e)=true)(hd:∀ e∈o.after,Region.binds .any e=true→l e.on=true):∀ d∈deps,l d=true:=by
 intro d hm
 have:=List.all_eq_true.1 hp d hm
 obtain⟨i,hi,h2⟩:=Array.any_eq_true.1 this
 simp only[Bool.and_eq_true,beq_iff_eq] at h2
 rw[←h2.1]
 exact hd o.after[i] (Array.getElem_mem hi) h2.2
def OpIn (ops:Array Oper)(i:Nat)(dst:Option Tmp)(op:Op)(g:Option (Nat × Bool))(deps:List Nat):Prop :=
 ∃ o,ops[i]? = some o∧o.dst=dst∧o.op=op∧o.guard=g∧deps.all (fun d=>o.after.any fun e=>e.on==d && Region.binds .any e)=true
theorem fPy {a b:Act}(W:List Nat)(hs:a.tmps.size=b.tmps.size)(hd:a.defers=b.defers)(hk:∀ s,s∉W→a.tmps.getD s undef=b.tmps.getD s undef):∃ f:Nat→Value,(∀ s,a.tmps.getD s undef=f s)∧a=W.foldl (fun b s=>b.put (some s) (f s)) b:=⟨fun s=>a.tmps.getD s undef,fun _=>rfl,fPu W hs hd hk⟩
theorem fPz {a b:Act}{D:Nat→Option Nat}{n:Nat}(W:List Nat)(h:((List.range n).all fun i=>(D i).all W.elem)=true)(hs:a.tmps.size=b.tmps.size)(hd:a.defers=b.defers)(hk:∀ s,(∀ i,i<n→D i≠some s)→a.tmps.getD s undef=b.tmps.getD s undef):∃ f:Nat→Value,(∀ s,a.tmps.getD s undef=f s)∧a=W.foldl (fun b s=>b.put (some s) (f s)) b:=by
 refine⟨fun s=>a.tmps.getD s undef,fun _=>rfl,fPu W hs hd fun s hn=>hk s fun i hi e=>hn ?_⟩
 have:=List.all_eq_true.1 h i (List.mem_range.2 hi)
 rw[e] at this
 exact List.elem_iff.1 this
abbrev OpS (ops:Array Oper)(i d:Nat)(op:Op)(p:List Nat):Prop:=OpIn ops i (some d) op none p
theorem OpIn.at_ {ops:Array Oper}{i:Nat}{d:Option Tmp}{op:Op}{g:Option (Nat×Bool)}{p:List Nat}{o:Oper}{l:Nat→Bool}(h:OpIn ops i d op g p)(ho:ops[i]?=some o)(hd:∀ e∈o.after,Region.binds .any e=true→l e.on=true):o.dst=d∧o.op=op∧o.guard=g∧∀ q∈p,l q=true:=by
 obtain⟨o',e1,e2,e3,e4,e5⟩:=h
 obtain rfl:=sOp ho e1
 exact⟨e2,e3,e4,dPo e5 hd⟩
theorem Inv.vl {N:Nat}{D:Nat→Option Nat}{a0:Act}{R:(Nat→Bool)→Act→World→Prop}{F:(Nat→Bool)→Nat→Value→World→Prop}{l:Nat→Bool}{a:Act}{w:World}(h:Inv N D a0 R F l a w){p:List Nat}(dp:∀ q∈p,l q=true)(i d:Nat)(h1:(Nat.blt i N&&p.elem i)=true)(hD:D i=some d):F l i (a.tmps.getD d undef) w:=by
 rw[Bool.and_eq_true] at h1
 exact h.val i d (Nat.le_of_ble_eq_true h1.1) hD (dp i (List.elem_iff.1 h1.2))
theorem Inv.va {N:Nat}{D:Nat→Option Nat}{a0:Act}{R:(Nat→Bool)→Act→World→Prop}{F:(Nat→Bool)→Nat→Value→World→Prop}{l:Nat→Bool}{a:Act}{w:World}(h:Inv N D a0 R F l a w)(al:∀ j,j<N→l j=true)(i d:Nat)(h1:Nat.blt i N=true)(hD:D i=some d):F l i (a.tmps.getD d undef) w:=h.val i d (Nat.le_of_ble_eq_true h1) hD (al i (Nat.le_of_ble_eq_true h1))
theorem Qfz.dep' {ops:Array Oper}{l:Nat→Bool}(h:Qfz ops l){i:Nat}{d:Option Tmp}{op:Op}{g:Option (Nat × Bool)}{deps:List Nat}(ho:OpIn ops i d op g deps)(hi:l i=true):∀ q∈deps,l q=true:=by
 obtain⟨o,e1,_,_,_,e5⟩:=ho
 exact dPo e5 fun e he hb=>h i o e1 hi e he hb
end
theorem QlO (d h l v u x t n:Int)(w:World)(mb vb ln lc ne:Nat)(LA:Addr)(UA DA:Nat→Addr)(uc dc:Nat→Nat)(vd dd xd ud:Int)
  (e1:v*d=vd) (e2:d*d=dd) (e3:x*d=xd) (e4:u*d=ud) (e5:d*u=ud)
  (b1:IntKind.i64.wrap vd=vd) (b2:IntKind.i64.wrap dd=dd) (b3:IntKind.i64.wrap xd=xd) (b4:IntKind.i64.wrap ud=ud)
  (l1:ln≤1000) (l2:ne≤1000) (R:World→Prop) (hR:∀ W,R W→Held mb w.heap.size ln lc ne LA UA DA uc dc d v u x W)
  (S0 T1 T2:World→Prop) (K M M':Nat→Nat→World→Prop)
  (h0:w.cell? ⟨mb,0,none⟩=some (I4 d)∧w.cell? ⟨mb,1,none⟩=some (I4 h)∧w.cell? ⟨mb,2,none⟩=some (I4 l)∧w.cell? ⟨mb,3,none⟩=some (I4 v) ∧
   w.cell? ⟨mb,4,none⟩=some (I4 u)∧w.cell? ⟨mb,5,none⟩=some (I4 x)∧w.cell? ⟨mb,6,none⟩=some (I4 t)∧w.cell? ⟨mb,7,none⟩=some (I4 n))
  (hs:S0 (w.alloc (.cells (c8 d h l v u x t n) 23))) (hs':R (w.alloc (.cells (c8 d h l v u x t n) 23)))
  (o0:∀ W,S0 W→R W→Calls Tryz.prog 86 #[.pointer (some ⟨mb,8,none⟩),I4 vd,Pt vb] W.drew fun e W'=>e=.returned (.tuple #[])∧K 0 0 W'∧R W')
  (p0:∀ i,i<ln→∀ W,K i 0 W→R W→Calls Tryz.prog 86 #[.pointer (some (LA.add (i*9))),I4 d,Pt vb] W.drew fun e W'=>e=.returned (.tuple #[])∧K i 1 W'∧R W')
  (p1:∀ i,i<ln→∀ W,K i 1 W→R W→Calls Tryz.prog 86 #[.pointer (some ⟨(LA.add (i*9)).block,(LA.add (i*9)).off+1,none⟩),I4 dd,Pt vb] W.drew fun e W'=>e=.returned (.tuple #[])∧K i 2 W'∧R W')
  (p2:∀ i,i<ln→∀ W,K i 2 W→R W→Calls Tryz.prog 86 #[.pointer (some ⟨(LA.add (i*9)).block,(LA.add (i*9)).off+2,none⟩),I4 dd,Pt vb] W.drew fun e W'=>e=.returned (.tuple #[])∧K i 3 W'∧R W')
  (p3:∀ i,i<ln→∀ W,K i 3 W→R W→Calls Tryz.prog 86 #[.pointer (some ⟨(LA.add (i*9)).block,(LA.add (i*9)).off+3,none⟩),I4 dd,Pt vb] W.drew fun e W'=>e=.returned (.tuple #[])∧K i 4 W'∧R W')
  (p4:∀ i,i<ln→∀ W,K i 4 W→R W→Calls Tryz.prog 86 #[.pointer (some ⟨(LA.add (i*9)).block,(LA.add (i*9)).off+4,none⟩),I4 dd,Pt vb] W.drew fun e W'=>e=.returned (.tuple #[])∧K i 5 W'∧R W')
  (p5:∀ i,i<ln→∀ W,K i 5 W→R W→Calls Tryz.prog 86 #[.pointer (some ⟨(LA.add (i*9)).block,(LA.add (i*9)).off+5,none⟩),I4 d,Pt vb] W.drew fun e W'=>e=.returned (.tuple #[])∧K i 6 W'∧R W')
  (p6:∀ i,i<ln→∀ W,K i 6 W→R W→Calls Tryz.prog 86 #[.pointer (some ⟨(LA.add (i*9)).block,(LA.add (i*9)).off+6,none⟩),I4 xd,Pt vb] W.drew fun e W'=>e=.returned (.tuple #[])∧M i 0 W'∧R W')
  (p7:∀ i,i<ln→∀ j,j<ne→∀ W,M i j W→R W→Calls Tryz.prog 86 #[.pointer (some ((UA i).add j)),I4 ud,Pt vb] W.drew fun e W'=>e=.returned (.tuple #[])∧M' i j W'∧R W')
  (p8:∀ i,i<ln→∀ j,j<ne→∀ W,M' i j W→R W→Calls Tryz.prog 86 #[.pointer (some ((DA i).add j)),I4 ud,Pt vb] W.drew fun e W'=>e=.returned (.tuple #[])∧M i (j+1) W'∧R W')
  (p9:∀ i,i<ln→∀ W,M i ne W→K (i+1) 0 W)
  (o1:∀ W,K ln 0 W→R W→Calls Tryz.prog 86 #[.pointer (some ⟨mb,10,none⟩),I4 d,Pt vb] W.drew fun e W'=>e=.returned (.tuple #[])∧T1 W'∧R W')
  (o2:∀ W,T1 W→R W→Calls Tryz.prog 86 #[.pointer (some ⟨mb,11,none⟩),I4 vd,Pt vb] W.drew fun e W'=>e=.returned (.tuple #[])∧T2 W'∧R W') :
  Calls Tryz.prog 85 #[Pt mb,.func (.func 86) #[] #[Pt vb]] w fun e w'=>e=.returned (.tuple #[])∧T2 w'∧R w':=by
 have HR:=hdn hR
 have Ho0:=hdn o0
 have Ho1:=hdn o1
 have Ho2:=hdn o2
 have Hp0:=hdn p0
 have Hp1:=hdn p1
 have Hp2:=hdn p2
 have Hp3:=hdn p3
 have Hp4:=hdn p4
 have Hp5:=hdn p5
 have Hp6:=hdn p6
 have Hp7:=hdn p7
 have Hp8:=hdn p8
 have Hp9:=hdn p9
 clear hR o0 o1 o2 p0 p1 p2 p3 p4 p5 p6 p7 p8 p9
 obtain⟨a0,a1,a2,a3,a4,a5,a6,a7⟩:=h0
 obtain⟨W0,eW⟩:∃ W0,w.alloc (.cells (c8 d h l v u x t n) 23)=W0:=⟨_,rfl⟩
 rw[eW] at hs hs'
 have k0:=Ho0.out _ hs hs'
 obtain⟨c9,d0,d3,d4,d5,-,-⟩:=HR.out _ hs'
 clear hs hs'
 have EW:=hdn eW
 clear eW
 go_enter Tryz.func85,Tryz.ntmps85
 go_wp2
 rw[EW.out]
 clear a0 a1 a2 a3 a4 a5 a6 a7 EW
 go_region_held3 (fun W=>W.cell? ⟨w.heap.size,0,none⟩=some (I4 d)∧W.cell? ⟨w.heap.size,3,none⟩=some (I4 v)) (exact⟨d0,d3⟩) (first
  | (go_at_call 86;refine k0.mono ?_;rintro e W1 ⟨rfl,i1,r1⟩;clear k0 c9 d0 d3 d4 d5;obtain⟨c9,d0,d3,d4,d5,-,-⟩:=HR.out _ r1))
 rename World=>W2
 go_wp2
 go_loopw [27] (fun i wr=>∃ k:Nat,k≤ln∧i=I4 k∧K k 0 wr∧R wr) (fun i _=>ln-(intOf i).toNat)
 case atStart=>exact⟨0,Nat.zero_le _,rfl,i1,r1⟩
 case round =>
  clear c9 d0 d3 d4 d5 i1 r1
  obtain⟨i,hi,rfl,i1,r1⟩:=hrel
  obtain⟨c9,d0,d3,d4,d5,-,-⟩:=HR.out _ r1
  by_cases hlt:i<ln
  ·have hlt':(i:Int)<(ln:Int):=by omega
   have up:=(HR.out _ r1).up i hlt
   have dn:=(HR.out _ r1).dn i hlt
   have k0:=Hp0.out i hlt _ i1 r1
   clear i1 r1
   obtain⟨P,eP⟩:∃ P,LA.add (i*9)=P:=⟨_,rfl⟩
   have HH:Hid (∀ W,R W→W.cell? ⟨P.block,P.off+7,none⟩=some (.slice (some (UA i)) ne (uc i))∧W.cell? ⟨P.block,P.off+8,none⟩=some (.slice (some (DA i)) ne (dc i))):=fun W hW=>by rw[←eP];exact⟨(HR.out _ hW).up i hlt,(HR.out _ hW).dn i hlt⟩
   rw[eP] at k0 up dn
   go_wp2
   go_region_held3 (fun W=>W.cell? ⟨w.heap.size,0,none⟩=some (I4 d)) (exact d0) (first
    | (go_at_call 86;refine k0.mono ?_;rintro e W1 ⟨rfl,i1,r1⟩;clear k0 c9 d0 d3 d4 d5;obtain⟨c9,d0,d3,d4,d5,-,-⟩:=HR.out _ r1))
   have k0:=Hp1.out i hlt _ i1 r1
   rw[eP] at k0
   clear i1 r1
   go_wp2
   go_region_held3 (fun W=>W.cell? ⟨w.heap.size,0,none⟩=some (I4 d)∧W.cell? ⟨w.heap.size,0,none⟩=some (I4 d)) (exact⟨d0,d0⟩) (first
    | (go_at_call 86;refine k0.mono ?_;rintro e W1 ⟨rfl,i1,r1⟩;clear k0 c9 d0 d3 d4 d5;obtain⟨c9,d0,d3,d4,d5,-,-⟩:=HR.out _ r1))
   have k0:=Hp2.out i hlt _ i1 r1
   rw[eP] at k0
   clear i1 r1
   go_wp2
   go_region_held3 (fun W=>W.cell? ⟨w.heap.size,0,none⟩=some (I4 d)∧W.cell? ⟨w.heap.size,0,none⟩=some (I4 d)) (exact⟨d0,d0⟩) (first
    | (go_at_call 86;refine k0.mono ?_;rintro e W1 ⟨rfl,i1,r1⟩;clear k0 c9 d0 d3 d4 d5;obtain⟨c9,d0,d3,d4,d5,-,-⟩:=HR.out _ r1))
   have k0:=Hp3.out i hlt _ i1 r1
   rw[eP] at k0
   clear i1 r1
   go_wp2
   go_region_held3 (fun W=>W.cell? ⟨w.heap.size,0,none⟩=some (I4 d)∧W.cell? ⟨w.heap.size,0,none⟩=some (I4 d)) (exact⟨d0,d0⟩) (first
    | (go_at_call 86;refine k0.mono ?_;rintro e W1 ⟨rfl,i1,r1⟩;clear k0 c9 d0 d3 d4 d5;obtain⟨c9,d0,d3,d4,d5,-,-⟩:=HR.out _ r1))
   have k0:=Hp4.out i hlt _ i1 r1
   rw[eP] at k0
   clear i1 r1
   go_wp2
   go_region_held3 (fun W=>W.cell? ⟨w.heap.size,0,none⟩=some (I4 d)∧W.cell? ⟨w.heap.size,0,none⟩=some (I4 d)) (exact⟨d0,d0⟩) (first
    | (go_at_call 86;refine k0.mono ?_;rintro e W1 ⟨rfl,i1,r1⟩;clear k0 c9 d0 d3 d4 d5;obtain⟨c9,d0,d3,d4,d5,-,-⟩:=HR.out _ r1))
   have k0:=Hp5.out i hlt _ i1 r1
   rw[eP] at k0
   clear i1 r1
   go_wp2
   go_region_held3 (fun W=>W.cell? ⟨w.heap.size,0,none⟩=some (I4 d)) (exact d0) (first
    | (go_at_call 86;refine k0.mono ?_;rintro e W1 ⟨rfl,i1,r1⟩;clear k0 c9 d0 d3 d4 d5;obtain⟨c9,d0,d3,d4,d5,-,-⟩:=HR.out _ r1))
   have k0:=Hp6.out i hlt _ i1 r1
   rw[eP] at k0
   clear i1 r1
   go_wp2
   go_region_held3 (fun W=>W.cell? ⟨w.heap.size,0,none⟩=some (I4 d)∧W.cell? ⟨w.heap.size,5,none⟩=some (I4 x)) (exact⟨d0,d5⟩) (first
    | (go_at_call 86;refine k0.mono ?_;rintro e W1 ⟨rfl,i1,r1⟩;clear k0 c9 d0 d3 d4 d5;obtain⟨c9,d0,d3,d4,d5,-,-⟩:=HR.out _ r1))
   obtain⟨up,dn⟩:=HH.out _ r1
   rename World=>W9
   go_wp2
   go_loopw [105] (fun j wr=>∃ k:Nat,k≤ne∧j=I4 k∧M i k wr∧R wr) (fun j _=>ne-(intOf j).toNat)
   case atStart=>exact⟨0,Nat.zero_le _,rfl,i1,r1⟩
   case round =>
    clear c9 d0 d3 d4 d5 i1 r1 up dn
    obtain⟨j,hj,rfl,i1,r1⟩:=hrel
    obtain⟨c9,d0,d3,d4,d5,-,-⟩:=HR.out _ r1
    obtain⟨up,dn⟩:=HH.out _ r1
    by_cases hlj:j<ne
    ·have hlj':(j:Int)<(ne:Int):=by omega
     have k0:=Hp7.out i hlt j hlj _ i1 r1
     clear i1 r1
     go_wp2
     go_region_held3 (fun W=>W.cell? ⟨P.block,P.off+7,none⟩=some (.slice (some (UA i)) ne (uc i))∧W.cell? ⟨w.heap.size,4,none⟩=some (I4 u)∧W.cell? ⟨w.heap.size,0,none⟩=some (I4 d)) (exact⟨up,d4,d0⟩) (first
      | (go_at_call 86;refine k0.mono ?_;rintro e W1 ⟨rfl,i1,r1⟩;clear k0 c9 d0 d3 d4 d5 up dn;obtain⟨c9,d0,d3,d4,d5,-,-⟩:=HR.out _ r1;obtain⟨up,dn⟩:=HH.out _ r1))
     have k0:=Hp8.out i hlt j hlj _ i1 r1
     clear i1 r1
     go_wp2
     go_region_held3 (fun W=>W.cell? ⟨P.block,P.off+8,none⟩=some (.slice (some (DA i)) ne (dc i))∧W.cell? ⟨w.heap.size,4,none⟩=some (I4 u)∧W.cell? ⟨w.heap.size,0,none⟩=some (I4 d)) (exact⟨dn,d4,d0⟩) (first
      | (go_at_call 86;refine k0.mono ?_;rintro e W1 ⟨rfl,i1,r1⟩;clear k0 c9 d0 d3 d4 d5 up dn;obtain⟨c9,d0,d3,d4,d5,-,-⟩:=HR.out _ r1;obtain⟨up,dn⟩:=HH.out _ r1))
     clear c9 d0 d3 d4 d5 up dn
     go_wp2
     go_roundw
     case rel=>exact⟨j+1,by omega,by go_num,i1,r1⟩
     case measure=>simp[intOf];omega
    ·have e:j=ne:=by omega
     subst e
     have i2:=Hp9.out i hlt _ i1
     clear i1 up dn c9 d0 d3 d4 d5
     go_wp2
     go_roundw
     case rel=>exact⟨i+1,by omega,by go_num,i2,r1⟩
     case measure=>simp[intOf];omega
  ·have e:i=ln:=by omega
   subst e
   have k0:=Ho1.out _ i1 r1
   clear i1 r1
   go_wp2
   go_region_held3 (fun W=>W.cell? ⟨w.heap.size,0,none⟩=some (I4 d)) (exact d0) (first
    | (go_at_call 86;refine k0.mono ?_;rintro e W1 ⟨rfl,i1,r1⟩;clear k0 c9 d0 d3 d4 d5;obtain⟨c9,d0,d3,d4,d5,-,-⟩:=HR.out _ r1))
   have k0:=Ho2.out _ i1 r1
   clear i1 r1
   go_wp2
   go_region_held3 (fun W=>W.cell? ⟨w.heap.size,0,none⟩=some (I4 d)∧W.cell? ⟨w.heap.size,3,none⟩=some (I4 v)) (exact⟨d0,d3⟩) (first
    | (go_at_call 86;refine k0.mono ?_;rintro e W1 ⟨rfl,i1,r1⟩;clear k0 c9 d0 d3 d4 d5;obtain⟨c9,d0,d3,d4,d5,-,-⟩:=HR.out _ r1))
   clear c9 d0 d3 d4 d5
   go_wp2
   go_end0
   exact⟨rfl,i1,r1⟩
end Go.Proofs.YthliomlmhfjhnaaGreat

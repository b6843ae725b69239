/- Texts put together. -/
import Derived.Test.YtbkjhfmehemgpaaGreatRows
import Derived.OpenShut
import Derived.ProofKit
import Derived.WalkKit
import Derived.WalkLawsBesides
import Derived.Below
import Derived.BigQuiet
import Derived.Deep.QuietTactic
import Derived.Orders
import Derived.Shelf.Abstract
namespace Go.Proofs.YtbkjhfmehemgpaaGreat
set_option maxRecDepth 20000
set_option maxHeartbeats 16000000
open Go.ChangeShapes Go.WideShapes Go.ChangeAt Go.RowKit
set_option linter.unusedVariables false
set_option linter.unusedSimpArgs false
def cZ (x:Int):Int:=if x < -2147483648 then -2147483648 else if 2147483647<x then 2147483647 else x
theorem ret_int {k:IntKind}{a b:Int}(h:a=b):Ending.returned (.int k a)=.returned (.int k b):=by rw[h]
theorem wrap64_eq (n:Int):wrap64 n=(n+9223372036854775808)%18446744073709551616-9223372036854775808:=by unfold wrap64;rfl
theorem cCa (x:Int)(w:World) :
  Calls Tryz.prog 79 #[.int .i64 x] w fun e w'=>e=.returned (.int .i64 (cZ x))∧w'=w:=by
 go_enter Tryz.func79,Tryz.ntmps79
 go_wp2
 all_goals (go_ret;refine⟨ret_int ?_,rfl⟩;unfold cZ;repeat' split)
 all_goals omega
def shN (s n:Int):Int:=(s/2 ^ (n.toNat-1)+1)/2
def shiftZ (x n:Int):Int:=if n≤0 then x else if x<0 then -(shN (-x) (min n 62)) else shN x (min n 62)
theorem pow_step (n:Int)(hn:1≤n):(2:Int) ^ n.toNat=2 ^ (n.toNat-1)*2:=by
 have e:n.toNat=(n.toNat-1)+1:=by omega
 rw[e,Int.pow_succ,←e]
theorem div_step (s n:Int)(hn:1≤n):s/2 ^ n.toNat=s/2 ^ (n.toNat-1)/2:=by
 rw[pow_step n hn,Int.ediv_ediv_of_nonneg (Int.le_of_lt (Int.pow_pos (by decide)))]
theorem div_bounds (s:Int)(k:Nat)(h:0≤s):0≤s/2 ^ k∧s/2 ^ k≤s :=
 ⟨Int.ediv_nonneg h (Int.le_of_lt (Int.pow_pos (by decide))),Int.ediv_le_self _ h⟩
theorem u64_wrap_eq (n:Int)(h0:0≤n)(h1:n≤18446744073709551615):IntKind.u64.wrap n=n:=by
 rw[IntKind.wrap_u64];omega
theorem shiftSize_call (s n:Int)(hs:(Lit.int .u64 s).wf=true)(hn:1≤n∧n≤62)(w:World) :
  Calls Tryz.prog 223 #[.int .u64 s,.int .i64 n] w fun e w'=>e=.returned (.int .u64 (shN s n))∧w'=w:=by
 have bs:=bounds_u64 hs
 go_enter Tryz.func223,Tryz.ntmps223
 go_wp2
 all_goals (go_ret;refine⟨ret_int ?_,rfl⟩)
 have b1:=div_bounds s (n.toNat-1) bs.1
 rw[and_one_u64 _ b1.1 (by omega),div_step s n hn.1,u64_wrap_eq _ (by omega) (by omega)]
 unfold shN
 omega
theorem shN_bounds (s n:Int)(hs:0≤s)(h1:s≤9223372036854775808)(hn:1≤n):0≤shN s n∧shN s n≤4611686018427387904+1:=by
 have b1:=div_bounds s (n.toNat-1) hs
 unfold shN
 omega
theorem neg_u64 (x:Int)(h0:-9223372036854775808≤x)(h1:x<0):IntKind.u64.wrap (-IntKind.u64.wrap x) = -x:=by
 rw[IntKind.wrap_u64,IntKind.wrap_u64];omega
theorem wf_u64_of {n:Int}(h0:0≤n)(h1:n≤18446744073709551615):(Lit.int .u64 n).wf=true:=WalkArith.wf_u64 ⟨h0,h1⟩
theorem shift_call (x n:Int)(hx:(Lit.int .i64 x).wf=true)(hn:(Lit.int .i64 n).wf=true)(w:World) :
  Calls Tryz.prog 201 #[.int .i64 x,.int .i64 n] w fun e w'=>e=.returned (.int .i64 (shiftZ x n))∧w'=w:=by
 have bx:=bounds_i64 hx
 by_cases n0:n≤0
 ·have e:shiftZ x n=x:=by unfold shiftZ;rw[if_pos n0]
  rw[e]
  go_enter Tryz.func201,Tryz.ntmps201
  go_wp2
  go_ret
  exact⟨rfl,rfl⟩
 ·by_cases x0:x<0
  ·have e:shiftZ x n = -(shN (-x) (min n 62)):=by unfold shiftZ;rw[if_neg n0,if_pos x0]
   rw[e]
   have en:=neg_u64 x bx.1 x0
   by_cases n1:62<n
   ·have em:min n 62=62:=by omega
    rw[em];clear e em
    have bb:=shN_bounds (-x) 62 (by omega) (by omega) (by omega)
    have wfx:(Lit.int .u64 (-x)).wf=true:=wf_u64_of (by omega) (by omega)
    go_enter Tryz.func201,Tryz.ntmps201
    go_wp2_with (go_at_call 223;refine (shiftSize_call _ _ wfx (by omega) _).mono ?_;rintro e w' ⟨rfl,rfl⟩)
    go_ret
    exact⟨rfl,rfl⟩
   ·have em:min n 62=n:=by omega
    rw[em];clear e em
    have bb:=shN_bounds (-x) n (by omega) (by omega) (by omega)
    have wfx:(Lit.int .u64 (-x)).wf=true:=wf_u64_of (by omega) (by omega)
    go_enter Tryz.func201,Tryz.ntmps201
    go_wp2_with (go_at_call 223;refine (shiftSize_call _ _ wfx (by omega) _).mono ?_;rintro e w' ⟨rfl,rfl⟩)
    go_ret
    exact⟨rfl,rfl⟩
  ·have e:shiftZ x n=shN x (min n 62):=by unfold shiftZ;rw[if_neg n0,if_neg x0]
   rw[e]
   have wfx:(Lit.int .u64 x).wf=true:=wf_u64_of (by omega) (by omega)
   by_cases n1:62<n
   ·have em:min n 62=62:=by omega
    rw[em];clear e em
    have bb:=shN_bounds x 62 (by omega) (by omega) (by omega)
    go_enter Tryz.func201,Tryz.ntmps201
    go_wp2_with (go_at_call 223;refine (shiftSize_call _ _ wfx (by omega) _).mono ?_;rintro e w' ⟨rfl,rfl⟩)
    go_ret
    exact⟨rfl,rfl⟩
   ·have em:min n 62=n:=by omega
    rw[em];clear e em
    have bb:=shN_bounds x n (by omega) (by omega) (by omega)
    go_enter Tryz.func201,Tryz.ntmps201
    go_wp2_with (go_at_call 223;refine (shiftSize_call _ _ wfx (by omega) _).mono ?_;rintro e w' ⟨rfl,rfl⟩)
    go_ret
    exact⟨rfl,rfl⟩
theorem wCz (x:Int):(Lit.int .i64 (cZ x)).wf=true:=by
 refine WalkArith.wf_i64 ?_
 unfold cZ
 repeat' split
 all_goals omega
theorem wf_shiftZ (x n:Int)(hx:(Lit.int .i64 x).wf=true):(Lit.int .i64 (shiftZ x n)).wf=true:=by
 have b:=bounds_i64 hx
 refine WalkArith.wf_i64 ?_
 unfold shiftZ
 split
 ·exact b
 ·split
  ·have:=shN_bounds (-x) (min n 62) (by omega) (by omega) (by omega)
   omega
  ·have:=shN_bounds x (min n 62) (by omega) (by omega) (by omega)
   omega
def mulZ (a b:Int):Int:=cZ (shiftZ (wrap64 (cZ a*cZ b)) 16)
theorem mul_call (a b:Int)(ha:(Lit.int .i64 a).wf=true)(hb:(Lit.int .i64 b).wf=true)(w:World) :
  Calls Tryz.prog 185 #[.int .i64 a,.int .i64 b] w fun e w'=>e=.returned (.int .i64 (mulZ a b))∧w'=w:=by
 go_enter Tryz.func185,Tryz.ntmps185
 go_wp2_with (first|(go_at_call 79;refine (cCa _ _).mono ?_;rintro e w' ⟨rfl,rfl⟩)|(go_at_call 201;refine (shift_call _ _ (wrap64_wf _) (by decide) _).mono ?_;rintro e w' ⟨rfl,rfl⟩))
 go_ret
 exact⟨rfl,rfl⟩
theorem cZb (x:Int):-2147483648≤cZ x∧cZ x≤2147483647:=by
 unfold cZ
 repeat' split
 all_goals omega
def noughtZ (a:Int):Int:=if 0<a then 2147483647 else if a<0 then -2147483648 else 0
theorem nought_call (a:Int)(w:World) :
  Calls Tryz.prog 190 #[.int .i64 a] w fun e w'=>e=.returned (.int .i64 (noughtZ a))∧w'=w:=by
 go_enter Tryz.func190,Tryz.ntmps190
 go_wp2
 all_goals (go_ret;refine⟨ret_int ?_,rfl⟩;unfold noughtZ;repeat' split)
 all_goals omega
def divZ (a b:Int):Int:=if cZ b=0 then noughtZ (cZ a) else cZ (wrap64 ((cZ a*65536).tdiv (cZ b)))
theorem div_call (a b:Int)(ha:(Lit.int .i64 a).wf=true)(hb:(Lit.int .i64 b).wf=true)(w:World) :
  Calls Tryz.prog 154 #[.int .i64 a,.int .i64 b] w fun e w'=>e=.returned (.int .i64 (divZ a b))∧w'=w:=by
 have ba:=cZb a
 have bb:=cZb b
 by_cases z:cZ b=0
 ·have e:divZ a b=noughtZ (cZ a):=by unfold divZ;rw[if_pos z]
  rw[e];clear e
  have z':(cZ b==0)=true:=by simp[z]
  clear z
  go_enter Tryz.func154,Tryz.ntmps154
  go_wp2_with (first|(go_at_call 79;refine (cCa _ _).mono ?_;rintro e w' ⟨rfl,rfl⟩)|(go_at_call 190;refine (nought_call _ _).mono ?_;rintro e w' ⟨rfl,rfl⟩))
  go_ret
  exact⟨rfl,rfl⟩
 ·have e:divZ a b=cZ (wrap64 ((cZ a*65536).tdiv (cZ b))):=by unfold divZ;rw[if_neg z]
  rw[e];clear e
  have z':(cZ b==0)=false:=by simp[z]
  go_enter Tryz.func154,Tryz.ntmps154
  go_wp2_with (first|(go_at_call 79;refine (cCa _ _).mono ?_;rintro e w' ⟨rfl,rfl⟩)|(go_at_call 190;refine (nought_call _ _).mono ?_;rintro e w' ⟨rfl,rfl⟩))
  go_ret
  exact⟨rfl,rfl⟩
section
theorem sOp {ops:Array Oper}{i:Nat}{o o':Oper}(h:ops[i]?=some o)(k:ops[i]?=some o'):o=o':=Option.some.inj (h.symm.trans k)
def lowB (ops:Array Oper):Bool:=(List.range ops.size).all fun i=>((ops[i]?).map fun o=>o.after.all fun e=>!Region.binds .any e || decide (e.on<i)).getD true
theorem low_of {ops:Array Oper}(h:lowB ops=true){i:Nat}{o:Oper}(hi:ops[i]? = some o):∀ e∈o.after,Region.binds .any e=true→e.on<i:=by
 intro e he hb
 have hlt:i<ops.size:=(Array.getElem?_eq_some_iff.1 hi).1
 have:=List.all_eq_true.1 h i (List.mem_range.2 hlt)
 simp only[hi,Option.map_some,Option.getD_some] at this
 have:=(Array.all_eq_true_iff_forall_mem.1 this) e he
 simp only[hb,Bool.not_true,Bool.false_or,decide_eq_true_eq] at this
 exact this
theorem all_listed {ops:Array Oper}(h:lowB ops=true){listed:Array Bool}(hr:Region.ready .any ops listed=[])(hs:listed.size=ops.size):∀ i,i<ops.size→listed.getD i false=true:=by
 intro i
 induction i using Nat.strongRecOn with
 | _ i ih =>
  intro hi
  cases hl:listed.getD i false with
  | true=>rfl
  | false =>
   exfalso
   have ho:ops[i]? = some ops[i]:=by simp[hi]
   have:i∈Region.ready .any ops listed:=mem_ready.2 ⟨by
    rw[Array.getD_eq_getD_getElem?] at hl ⊢
    rw[Array.getElem?_eq_getElem (by omega)] at hl ⊢
    simpa using hl,ops[i],ho,fun e he hb=>by
     have:=low_of h ho e he hb
     exact ih e.on this (by omega)⟩
   rw[hr] at this
   cases this
theorem wp_region_inv {P:Program}{ops:Array Oper}{Q:Exit→Act→World→Prop}{id:Nat}{a:Act}{w:World}(hm:P.follows .mixedOrders=true)(hB:lowB ops=true)(I:(Nat→Bool)→Act→World→Prop)
  (h0:I (fun _=>false) a { w with drawn:=w.drawn+1 })
  (step:∀ l i o a w,ops[i]? = some o→l i=false→(∀ e∈o.after,Region.binds .any e=true→l e.on=true)→I l a w→wpOp P ops Q i (fun a' w'=>I (fun j=>l j || j==i) a' w') a w)
  (fin:∀ l a w,(∀ i,i<ops.size→l i=true)→I l a w→Q .normal a w):(Code.region id ops true).wp P Q a w:=by
 refine wp_region_any hm ?_
 have key:∀ fuel (listed:Array Bool) a w,listed.size=ops.size→listed.toList.countP (fun b=>!b)≤fuel→I (fun j=>listed.getD j false) a w→wpAny P .any ops Q fuel listed a w:=by
  intro fuel
  induction fuel with
  | zero =>
   intro listed a w hs hc hI
   have all:∀ i,i<listed.size→listed.getD i false=true:=fun i hi=>by
    have h1:listed.toList.countP (fun b=>!b)=0:=by omega
    have:=(List.countP_eq_zero.1 h1) listed[i] (by simp)
    rw[Array.getD_eq_getD_getElem?,Array.getElem?_eq_getElem hi]
    simpa using this
   have hr:Region.ready .any ops listed=[]:=by
    apply List.eq_nil_iff_forall_not_mem.2
    intro j hj
    obtain⟨h1,o,ho,_⟩:=mem_ready.1 hj
    have hlt:j<listed.size:=by rw[hs];exact (Array.getElem?_eq_some_iff.1 ho).1
    have:=all j hlt
    rw[Array.getD_eq_getD_getElem?,Array.getElem?_eq_getElem hlt] at h1 this
    simp at h1 this
    rw[h1] at this
    cases this
   exact⟨hr,fin _ a w (fun i hi=>all i (by omega)) hI⟩
  | succ fuel ih =>
   intro listed a w hs hc hI
   refine⟨fun hr=>fin _ a w (all_listed hB hr hs) hI,fun i hi=>?_⟩
   obtain⟨h1,o,ho,hd⟩:=mem_ready.1 hi
   have hlt:i<listed.size:=by rw[hs];exact (Array.getElem?_eq_some_iff.1 ho).1
   have hf:listed[i]=false:=by
    rw[Array.getD_eq_getD_getElem?,Array.getElem?_eq_getElem hlt] at h1
    simpa using h1
   refine wpOp_mono ?_ (step _ i o a w ho (by rw[Array.getD_eq_getD_getElem?,Array.getElem?_eq_getElem hlt];simpa using hf) hd hI)
   intro a' w' hI'
   refine ih _ a' w' (by simp[hs]) ?_ ?_
   ·have h2:(listed.setIfInBounds i true).toList=listed.toList.set i true:=by simp
    rw[h2,List.countP_set (by simpa using hlt)]
    have h3:0<listed.toList.countP (fun b=>!b):=List.countP_pos_iff.2 ⟨listed[i],by simp,by simp[hf]⟩
    rw[if_pos (by simp[hf]),if_neg (by simp)]
    omega
   ·have e:(fun j=>(listed.setIfInBounds i true).getD j false)=fun j=>listed.getD j false || j==i:=by
     funext j
     by_cases hj:i=j
     ·subst hj
      simp[Array.getD_eq_getD_getElem?,hlt]
     ·rw[getD_set_ne false hj]
      have:(j==i)=false:=by simp;omega
      rw[this,Bool.or_false]
    rw[e]
    exact hI'
 refine key _ _ _ _ (by simp) ?_ ?_
 ·refine Nat.le_trans List.countP_le_length ?_
  simp
 ·have e:(fun j=>(Array.replicate ops.size false).getD j false)=fun _=>false:=by
   funext j
   rw[Array.getD_eq_getD_getElem?,Array.getElem?_replicate]
   split<;>rfl
  rw[e]
  exact h0
theorem wVa {P:Program}{ops:Array Oper}{Q:Exit→Act→World→Prop}{i:Nat}{o:Oper}{a:Act}{w w':World}{v:Value}{K:Act→World→Prop}(ho:ops[i]? = some o)(hg:o.guard=none)(hr:(execOp a.eval o).run P w=.ok (.value v) w')(hK:K (a.put o.dst v) w'):wpOp P ops Q i K a w:=by
 unfold wpOp
 simp only[ho]
 have hw:Region.wanted o (yielded ops a.tmps)=true:=by simp[Region.wanted,hg]
 rw[if_pos hw]
 refine .inl ?_
 unfold Oper.wp
 rw[hr]
 exact hK
theorem wSk {P:Program}{ops:Array Oper}{Q:Exit→Act→World→Prop}{i:Nat}{o:Oper}{a:Act}{w w':World}{K:Act→World→Prop}(ho:ops[i]? = some o)(hg:o.guard=none)(hr:(execOp a.eval o).run P w=.ok .skip w')(hK:K (a.put o.dst undef) w'):wpOp P ops Q i K a w:=by
 unfold wpOp
 simp only[ho]
 have hw:Region.wanted o (yielded ops a.tmps)=true:=by simp[Region.wanted,hg]
 rw[if_pos hw]
 refine .inl ?_
 unfold Oper.wp
 rw[hr]
 exact hK
theorem get_put (a:Act)(d:Tmp)(v:Value)(s:Nat)(h:d<a.tmps.size):(a.put (some d) v).tmps.getD s undef=if s=d then v else a.tmps.getD s undef:=by
 show (a.tmps.setIfInBounds d v).getD s undef=_
 rw[Array.getD_eq_getD_getElem?,Array.getElem?_setIfInBounds]
 by_cases e:d=s
 ·subst e
  simp[h]
 ·rw[if_neg e,if_neg (Ne.symm e),Array.getD_eq_getD_getElem?]
theorem wCa {P:Program}{ops:Array Oper}{Q:Exit→Act→World→Prop}{i:Nat}{o:Oper}{a:Act}{w:World}{f:FuncId}{args:Array Value}{K:Act→World→Prop}(ho:ops[i]? = some o)(hg:o.guard=none)(hr:(execOp a.eval o).run P w=.ok (.enter f args) w)
  (c:Calls P f args w fun e w'=>∃ v,e=.returned v∧K (a.put o.dst v) w'):wpOp P ops Q i K a w:=by
 unfold wpOp
 simp only[ho]
 have hw:Region.wanted o (yielded ops a.tmps)=true:=by simp[Region.wanted,hg]
 rw[if_pos hw]
 refine .inl ?_
 unfold Oper.wp
 rw[hr]
 unfold Oper.upon
 refine c.mono ?_
 rintro e w' ⟨v,rfl,hK⟩
 exact hK
structure Inv (N:Nat) (D:Nat→Option Nat) (a0:Act) (R:(Nat→Bool)→Act→World→Prop) (F:(Nat→Bool)→Nat→Value→World→Prop) (l:Nat→Bool) (a:Act) (w:World):Prop where
 size:a.tmps.size=a0.tmps.size
 defers:a.defers=a0.defers
 kept:∀ s,(∀ i,i<N→D i≠some s)→a.tmps.getD s undef=a0.tmps.getD s undef
 world:R l a w
 val:∀ i d,i<N→D i=some d→l i=true→F l i (a.tmps.getD d undef) w
variable {N:Nat}{D:Nat→Option Nat}{a0:Act}{R:(Nat→Bool)→Act→World→Prop}{F:(Nat→Bool)→Nat→Value→World→Prop}{l:Nat→Bool}{a:Act}{w:World}
theorem Inv.start (hw:R (fun _=>false) a0 w):Inv N D a0 R F (fun _=>false) a0 w:=⟨rfl,rfl,fun _ _=>rfl,hw,fun _ _ _ _ h=>by cases h⟩
theorem Inv.put (h:Inv N D a0 R F l a w){i d:Nat}{v:Value}{w':World}(hi:i<N)(hD:D i=some d)(hd:d<a0.tmps.size)(inj:∀ j d',j<N→D j=some d'→j≠i→d'≠d)
  (hR:R (fun j=>l j || j==i) (a.put (some d) v) w') (hF:F (fun j=>l j || j==i) i v w') (mono:∀ j u,j<N→l j=true→j≠i→F l j u w→F (fun j=>l j || j==i) j u w') :
  Inv N D a0 R F (fun j=>l j || j==i) (a.put (some d) v) w':=by
 have hd':d<a.tmps.size:=by rw[h.size];exact hd
 refine⟨by show (a.tmps.setIfInBounds d v).size=_;rw[Array.size_setIfInBounds];exact h.size,h.defers,fun s hs=>?_,hR,fun j d' hj hDj hl=>?_⟩
 ·rw[get_put a d v s hd',if_neg (fun e=>hs i hi (by rw[e];exact hD))]
  exact h.kept s hs
 ·rw[get_put a d v d' hd']
  by_cases e:j=i
  ·subst e
   obtain rfl:=Option.some.inj (hD.symm.trans hDj)
   rw[if_pos rfl]
   exact hF
  ·rw[if_neg (inj j d' hj hDj e)]
   have hl':l j=true:=by simpa [e] using hl
   exact mono j _ hj hl' e (h.val j d' hj hDj hl')
theorem Inv.none_ (h:Inv N D a0 R F l a w){i:Nat}{w':World}(hD:D i=none)(hR:R (fun j=>l j || j==i) a w')(mono:∀ j u,j<N→l j=true→j≠i→F l j u w→F (fun j=>l j || j==i) j u w') :
  Inv N D a0 R F (fun j=>l j || j==i) a w':=by
 refine⟨h.size,h.defers,h.kept,hR,fun j d' hj hDj hl=>?_⟩
 have e:j≠i:=fun e=>by rw[e,hD] at hDj;cases hDj
 have hl':l j=true:=by simpa [e] using hl
 exact mono j _ hj hl' e (h.val j d' hj hDj hl')
theorem fPu {a:Act}(W:List Nat):∀ {b:Act},a.tmps.size=b.tmps.size→a.defers=b.defers→(∀ s,s ∉ W→a.tmps.getD s undef=b.tmps.getD s undef)→a=W.foldl (fun b s=>b.put (some s) (a.tmps.getD s undef)) b:=by
 induction W with
 | nil =>
  intro b hs hd hk
  obtain⟨ta,da⟩:=a
  obtain⟨tb,db⟩:=b
  simp only at hs hd hk
  subst hd
  show Act.mk ta da=Act.mk tb da
  congr 1
  apply Array.ext hs
  intro i h1 h2
  have:=hk i (by simp)
  simpa [Array.getD_eq_getD_getElem?,h1,h2] using this
 | cons s W ih =>
  intro b hs hd hk
  refine ih ?_ ?_ ?_
  ·show _=(b.tmps.setIfInBounds s _).size
   rw[Array.size_setIfInBounds]
   exact hs
  ·exact hd
  ·intro s' h'
   by_cases h1:s<b.tmps.size
   ·rw[get_put b s _ s' h1]
    by_cases e:s'=s
    ·rw[if_pos e,e]
    ·rw[if_neg e]
     exact hk s' (by simp[e,h'])
   ·have e1:(b.put (some s) (a.tmps.getD s undef)).tmps=b.tmps:=by show b.tmps.setIfInBounds s _=_;rw[Array.setIfInBounds_eq_of_size_le (by omega)]
    rw[e1]
    by_cases e:s'=s
    ·subst e
     rw[Array.getD_eq_getD_getElem?,Array.getD_eq_getD_getElem?,Array.getElem?_eq_none (by omega),Array.getElem?_eq_none (by omega)]
    ·exact hk s' (by simp[e,h'])
def Closed (ops:Array Oper)(l:Nat→Bool):Prop:=∀ i o,ops[i]? = some o→l i=true→∀ e∈o.after,Region.binds .any e=true→l e.on=true
theorem wRi {P:Program}{ops:Array Oper}{Q:Exit→Act→World→Prop}{id:Nat}{a:Act}{w:World}(hm:P.follows .mixedOrders=true)(hB:lowB ops=true)(I:(Nat→Bool)→Act→World→Prop)
  (h0:I (fun _=>false) a { w with drawn:=w.drawn+1 })
  (step:∀ l i o a w,ops[i]? = some o→l i=false→Closed ops l→(∀ e∈o.after,Region.binds .any e=true→l e.on=true)→I l a w→wpOp P ops Q i (fun a' w'=>I (fun j=>l j || j==i) a' w') a w)
  (fin:∀ l a w,(∀ i,i<ops.size→l i=true)→I l a w→Q .normal a w):(Code.region id ops true).wp P Q a w:=by
 refine wp_region_inv hm hB (fun l a w=>Closed ops l∧I l a w) ⟨(fun i o _ h=>by cases h),h0⟩ ?_ ?_
 ·rintro l i o a w ho hl hdep ⟨hc,hI⟩
  refine wpOp_mono ?_ (step l i o a w ho hl hc hdep hI)
  intro a' w' hI'
  refine⟨fun j o' ho' hj e he hb=>?_,hI'⟩
  simp only[Bool.or_eq_true,beq_iff_eq] at hj ⊢
  rcases hj with hj|hj
  ·exact .inl (hc j o' ho' hj e he hb)
  ·subst hj
   obtain rfl:=Option.some.inj (ho.symm.trans ho')
   exact .inl (hdep e he hb)
 ·rintro l a w hall ⟨_,hI⟩
  exact fin l a w hall hI
theorem dPo {o:Oper}{l:Nat→Bool}{deps:List Nat}(hp:deps.all (fun d=>o.after.any fun e=>e.on==d && Region.binds .any e)=true)(hd:∀ e∈o.after,Region.binds .any e=true→l e.on=true):∀ d∈deps,l d=true:=by
 intro d hm
 have:=List.all_eq_true.1 hp d hm
 obtain⟨i,hi,h2⟩:=Array.any_eq_true.1 this
 simp only[Bool.and_eq_true,beq_iff_eq] at h2
 rw[←h2.1]
 exact hd o.after[i] (Array.getElem_mem hi) h2.2
def OpIn (ops:Array Oper)(i:Nat)(dst:Option Tmp)(op:Op)(g:Option (Nat × Bool))(deps:List Nat):Prop :=
 ∃ o,ops[i]? = some o∧o.dst=dst∧o.op=op∧o.guard=g∧deps.all (fun d=>o.after.any fun e=>e.on==d && Region.binds .any e)=true
theorem Closed.dep' {ops:Array Oper}{l:Nat→Bool}(h:Closed ops l){i:Nat}{d:Option Tmp}{op:Op}{g:Option (Nat × Bool)}{deps:List Nat}(ho:OpIn ops i d op g deps)(hi:l i=true):∀ q∈deps,l q=true:=by
 obtain⟨o,e1,_,_,_,e5⟩:=ho
 exact dPo e5 fun e he hb=>h i o e1 hi e he hb
end
def addZ (a b:Int):Int:=if 9223372036854775807<a+b then 9223372036854775807 else if a+b < -9223372036854775808 then -9223372036854775808 else a+b
theorem add_call (a b:Int)(ha:(Lit.int .i64 a).wf=true)(hb:(Lit.int .i64 b).wf=true)(w:World) :
  Calls Tryz.prog 111 #[.int .i64 a,.int .i64 b] w fun e w'=>e=.returned (.int .i64 (addZ a b))∧w'=w:=by
 have ba:=bounds_i64 ha
 have bb:=bounds_i64 hb
 go_enter Tryz.func111,Tryz.ntmps111
 go_wp2
 all_goals (go_ret;refine⟨ret_int ?_,rfl⟩;have ew:=wrap64_eq (a+b);unfold addZ;repeat' split)
 all_goals omega
theorem wf_addZ (a b:Int):(Lit.int .i64 (addZ a b)).wf=true:=by
 refine WalkArith.wf_i64 ?_
 unfold addZ
 repeat' split
 all_goals omega
def rnd (n:Int):Nat→Int→Int
 | 0,r=>r
 | k+1,r=>rnd n k (if (r+2 ^ k)*(r+2 ^ k)≤n then r+2 ^ k else r)
theorem rnd_spec (n:Int):∀ (k:Nat) (r:Int),0≤r→r*r≤n→n<(r+2 ^ k)*(r+2 ^ k)→0≤rnd n k r∧rnd n k r*rnd n k r≤n∧n<(rnd n k r+1)*(rnd n k r+1)
 | 0,r,h0,h1,h2=>by
  unfold rnd
  exact⟨h0,h1,by simpa using h2⟩
 | k+1,r,h0,h1,h2=>by
  have p:(0:Int)<2 ^ k:=Int.pow_pos (by decide)
  rw[Int.pow_succ] at h2
  unfold rnd
  split
  ·rename_i h
   refine rnd_spec n k _ (by omega) h ?_
   have e:r+2 ^ k+2 ^ k=r+2 ^ k*2:=by omega
   rw[e];exact h2
  ·rename_i h
   exact rnd_spec n k _ h0 h1 (by omega)
def rootZ (n:Int):Int:=rnd n 25 0
theorem rootZ_spec (n:Int)(h0:0≤n)(h1:n≤281474976710656):0≤rootZ n∧rootZ n*rootZ n≤n∧n<(rootZ n+1)*(rootZ n+1) :=
 rnd_spec n 25 0 (by decide) (by omega) (by omega)
theorem sq_bounds (a:Int)(h0:0≤a)(h1:a≤33554432):0≤a*a∧a*a≤1125899906842624:=by
 refine⟨Int.mul_nonneg h0 h0,?_⟩
 have:=Int.mul_le_mul h1 h1 h0 (by decide)
 omega
theorem root_call (n:Int)(h0:0≤n)(h1:n≤281474976710656)(w:World) :
  Calls Tryz.prog 209 #[.int .i64 n] w fun e w'=>e=.returned (.int .i64 (rootZ n))∧w'=w:=by
 unfold rootZ
 obtain⟨R,eR⟩:∃ R,rnd n 25 0=R:=⟨_,rfl⟩
 rw[eR]
 have ER:Hid (rnd n 25 0=R):=eR
 clear eR
 go_enter Tryz.func209,Tryz.ntmps209
 go_wp2
 go_loop [3,4] (fun v b=>∃ (k:Nat) (r:Int),v=.int .i64 r∧b=.int .i64 (2 ^ k/2)∧0≤r∧r+2*(2 ^ k/2)≤33554432∧rnd n k r=R) (fun _ b=>(intOf b).toNat)
 case atStart=>exact⟨25,0,rfl,rfl,by decide,by decide,ER.out⟩
 case round =>
  obtain⟨k,r,rfl,rfl,r0,r1,er⟩:=hrel
  cases k with
  | zero =>
   have e:(2:Int) ^ 0/2=0:=by decide
   rw[e]
   clear r1 ER
   have E:Hid (rnd n 0 r=R):=er
   clear er
   go_wp2
   go_ret
   exact⟨ret_int E.out,rfl⟩
  | succ k =>
   have e:(2:Int) ^ (k+1)/2=2 ^ k:=by rw[Int.pow_succ];omega
   have p:(0:Int)<2 ^ k:=Int.pow_pos (by decide)
   have er':rnd n k (if (r+2 ^ k)*(r+2 ^ k)≤n then r+2 ^ k else r)=R:=er
   rw[e] at r1 ⊢
   clear er e
   have sq:=sq_bounds (r+2 ^ k) (by omega) (by omega)
   have E:Hid (rnd n k (if (r+2 ^ k)*(r+2 ^ k)≤n then r+2 ^ k else r)=R):=er'
   clear er'
   obtain⟨B,eB⟩:∃ B,(2:Int) ^ k=B:=⟨_,rfl⟩
   rw[eB] at r1 p sq ⊢
   have EB:Hid ((2:Int) ^ k=B):=eB
   clear eB
   obtain⟨sq0,sq1⟩:=sq
   go_wp2
   ·have h:(r+B)*(r+B)≤n:=by assumption
    go_round
    case rel =>
     have b:=EB.out
     have e:=E.out
     rw[b,if_pos h] at e
     exact⟨k,r+B,rfl,by rw[b],by omega,by rw[b];omega,e⟩
    case measure=>simp only[intOf];omega
   ·have h:¬(r+B)*(r+B)≤n:=by omega
    go_round
    case rel =>
     have b:=EB.out
     have e:=E.out
     rw[b,if_neg h] at e
     exact⟨k,r,rfl,by rw[b],by omega,by rw[b];omega,e⟩
    case measure=>simp only[intOf];omega
def rsqrtZ (x:Int):Int:=if cZ x<1 then 2147483647 else rootZ (281474976710656/cZ x)
theorem quot_bounds (c:Int)(h:1≤c):0≤281474976710656/c∧281474976710656/c≤281474976710656 :=
 ⟨Int.ediv_nonneg (by decide) (by omega),Int.ediv_le_self _ (by decide)⟩
theorem rsqrt_call (x:Int)(w:World) :
  Calls Tryz.prog 182 #[.int .i64 x] w fun e w'=>e=.returned (.int .i64 (rsqrtZ x))∧w'=w:=by
 have cb:=cZb x
 unfold rsqrtZ
 obtain⟨c,ec⟩:∃ c,cZ x=c:=⟨_,rfl⟩
 rw[ec] at cb ⊢
 obtain⟨c0,c1⟩:=cb
 by_cases k:c<1
 ·rw[if_pos k]
  go_enter Tryz.func182,Tryz.ntmps182
  go_wp2_with (first|(go_at_call 79;refine (cCa _ _).mono ?_;rintro e w' ⟨rfl,rfl⟩)|(go_at_call 209;refine (root_call _ (by omega) (by omega) _).mono ?_;rintro e w' ⟨rfl,rfl⟩))
  all_goals go_ret
  all_goals exact⟨rfl,rfl⟩
 ·rw[if_neg k]
  obtain⟨q0,q1⟩:=quot_bounds c (by omega)
  go_enter Tryz.func182,Tryz.ntmps182
  go_wp2_with (first|(go_at_call 79;refine (cCa _ _).mono ?_;rintro e w' ⟨rfl,rfl⟩)|(go_at_call 209;refine (root_call _ (by omega) (by omega) _).mono ?_;rintro e w' ⟨rfl,rfl⟩))
  all_goals go_ret
  all_goals exact⟨rfl,rfl⟩
end Go.Proofs.YtbkjhfmehemgpaaGreat

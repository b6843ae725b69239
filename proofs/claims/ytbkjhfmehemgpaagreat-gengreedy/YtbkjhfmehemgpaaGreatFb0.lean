/- Texts put together. -/
import Derived.Test.YtbkjhfmehemgpaaGreatRows
import Derived.Below
import Derived.BigQuiet
import Derived.Deep.QuietTactic
import Derived.OpenShut
import Derived.ProofKit
import Derived.WalkKit
import Derived.Deep.RegionLaw
import Derived.Laws.AppendOwnNone
import Derived.ArgAppend
import Derived.WalkLawsBesides
import Derived.Deep.RegionWith
import Derived.Defers
import Derived.Laws.Pointers
import Derived.Recover
namespace Go.Proofs.YtbkjhfmehemgpaaGreat
set_option maxRecDepth 20000
set_option maxHeartbeats 16000000
open Go.ChangeShapes Go.WideShapes Go.ChangeAt Go.RowKit
set_option linter.unusedVariables false
set_option linter.unusedSimpArgs false
structure Reads (k:IntKind) (w:World) (a:Option Addr) (n:Nat) (zs:List Int):Prop where
 len:zs.length=n
 max:n≤9223372036854775807
 wf:∀ i,(Lit.int k (zs.getD i 0)).wf=true
 some_:0<n→∃ x,a=some x
 cell:∀ x,a=some x→∀ i,i<n→w.cell? (x.add i)=some (.int k (zs.getD i 0))
theorem wf_nought (k:IntKind):(Lit.int k 0).wf=true:=by cases k<;>decide
theorem Reads.nil (k:IntKind)(w:World):Reads k w none 0 [] :=
 ⟨rfl,by omega,fun i=>by simpa using wf_nought k,fun h=>by omega,fun _ h=>by cases h⟩
theorem Reads.of_row {k:IntKind}{w:World}{x:Addr}{n:Nat}{zs:List Int}(h0:zs.length=n)(h1:n≤9223372036854775807)(h2:∀ z∈zs,(Lit.int k z).wf=true)
  (h3:∀ i,i<n→w.cell? (x.add i)=some (.int k (zs.getD i 0))):Reads k w (some x) n zs:=by
 refine⟨h0,h1,fun i=>?_,fun _=>⟨x,rfl⟩,fun y hy=>?_⟩
 ·by_cases hi:i<zs.length
  ·have e:zs.getD i 0=zs[i]:=by simp[List.getD,hi]
   rw[e]
   exact h2 _ (List.getElem_mem hi)
  ·have e:zs.getD i 0=0:=by simp[List.getD,hi]
   rw[e]
   exact wf_nought k
 ·obtain rfl:=Option.some.inj hy
  exact h3
theorem Reads.carry {k:IntKind}{w w':World}{a:Option Addr}{n:Nat}{zs:List Int}(h:Reads k w a n zs)(hc:∀ p v,w.cell? p=some v→w'.cell? p=some v):Reads k w' a n zs :=
 ⟨h.len,h.max,h.wf,h.some_,fun x hx i hi=>hc _ _ (h.cell x hx i hi)⟩
theorem Reads.below {k:IntKind}{w w':World}{a:Option Addr}{n:Nat}{zs:List Int}(h:Reads k w a n zs)(hb:Below w.heap.size w w'):Reads k w' a n zs :=
 h.carry fun p v hp=>(hb.cell (World.block_lt_of_cell? w p hp)).trans hp
theorem Reads.drewN {k:IntKind}{w:World}{a:Option Addr}{n:Nat}{zs:List Int}(h:Reads k w a n zs)(m:Nat):Reads k (w.drewN m) a n zs:=h.carry fun _ _ hp=>hp
theorem bDr {B:Nat}{a w w':World}(hb:Below B a w)(h:∃ m,w'=w.drewN m):Below B a w':=by
 obtain⟨m,rfl⟩:=h
 exact⟨hb.os,hb.tape,hb.output,hb.size,hb.block⟩
theorem bNw {w W:World}(h:Below w.heap.size w W)(o:Obj):Below w.heap.size w (W.alloc o):=h.alloc h.size o
theorem bTn {w W W':World}(h:Below w.heap.size w W)(k:Below W.heap.size W W'):Below w.heap.size w W':=h.trans (k.mono h.size)
theorem Reads.wf_mem {k:IntKind}{w:World}{a:Option Addr}{n:Nat}{zs:List Int}(h:Reads k w a n zs):∀ z∈zs,(Lit.int k z).wf=true:=by
 intro z hz
 obtain⟨i,hi,e⟩:=List.getElem_of_mem hz
 have:=h.wf i
 rwa [show zs.getD i 0=z by simp[List.getD,hi,e]] at this
theorem Reads.cut {k:IntKind}{w:World}{x:Addr}{n:Nat}{zs:List Int}(h:Reads k w (some x) n zs)(l m:Nat)(hm:l+m≤n):Reads k w (some (x.add l)) m ((zs.drop l).take m):=by
 have hl:=h.len
 have e:∀ i,i<m→((zs.drop l).take m).getD i 0=zs.getD (l+i) 0:=fun i hi=>by simp[List.getD,hi]
 refine Reads.of_row (by rw[List.length_take,List.length_drop];omega) (by have:=h.max;omega) (fun z hz=>h.wf_mem z (List.mem_of_mem_drop (List.mem_of_mem_take hz))) fun i hi=>?_
 rw[Addr.add_add,e i hi]
 exact h.cell x rfl (l+i) (by omega)
theorem info3:(Tryz.prog.info? 3).map (fun i=>(i.zero,i.size,i.bytes))=some (some (.int .i64 0),1,8):=by kernel_rfl
theorem info2:(Tryz.prog.info? 2).map (fun i=>(i.zero,i.size,i.bytes))=some (some (.int .i64 0),1,8):=by kernel_rfl
theorem oRe {k:IntKind}{w:World}{B:Nat}{e:TypeId}{v:Value}{n:Nat}{cs:List Value}(h:w.ownsRow B e 1 v n cs){zs:List Int}(hl:zs.length=n)
  (hw:∀ z∈zs,(Lit.int k z).wf=true) (hc:∀ j,j<n→cs[j]? = some (.int k (zs.getD j 0))):∃ a c,v=.slice a n c∧Reads k w a n zs:=by
 rcases h.2 with⟨rfl,rfl⟩|⟨g,cap,cur,rfl,_,hg,hn,hm,hs,ht⟩
 ·obtain rfl:=List.eq_nil_of_length_eq_zero hl
  exact⟨none,0,rfl,Reads.nil _ _⟩
 ·refine⟨_,_,rfl,Reads.of_row hl (by unfold maxLen at hm;omega) hw fun i hi=>?_⟩
  exact h.cells (g:=g) rfl i _ (hc i hi)
theorem oRa {k:IntKind}{w:World}{B:Nat}{e:TypeId}{a:Option Addr}{n c:Nat}{cs:List Value}(h:w.ownsRow B e 1 (.slice a n c) n cs){zs:List Int}(hl:zs.length=n)
  (hw:∀ z∈zs,(Lit.int k z).wf=true) (hc:∀ j,j<n→cs[j]? = some (.int k (zs.getD j 0))):Reads k w a n zs:=by
 obtain⟨a',c',ev,hr⟩:=oRe h hl hw hc
 simp only[Value.slice.injEq] at ev
 rw[ev.1]
 exact hr
theorem set_step {cs:List Value}{n k:Nat}{u:Value}{F:Nat→Value}(hl:cs.length=n)(hk:k<n)(hu:u=F k)(h:∀ j,j<k→cs[j]? = some (F j)) :
  ∀ j,j<k+1→(cs.set k u)[j]? = some (F j):=by
 intro j hj
 by_cases e:j=k
 ·subst e
  subst hu
  simp[hl,hk]
 ·rw[List.getElem?_set_ne (by omega)]
  exact h j (by omega)
theorem oLe {w:World}{B:Nat}{e:TypeId}{v:Value}{n:Nat}{cs:List Value}(h:w.ownsRow B e 1 v n cs):cs.length=n:=by
 simpa using h.1
theorem one_new (w:World)(V:Value)(t:TypeId):∀ j u,[V][j]? = some u→(w.alloc (.cells #[V] t)).cell? ((⟨w.heap.size,0,none⟩:Addr).add j)=some u:=by
 intro j u hj
 match j,hj with
 | 0,hj=>simp at hj;subst hj;simp[Addr.add]
theorem oOc (k:IntKind)(z:Int):∀ u∈[Value.int k z],u.oneCell'=true:=by
 intro u hu
 simp at hu
 subst hu
 rfl
def gath (F:Nat→Int)(kd:IntKind)(k:Nat):List Value:=(List.range k).map fun j=>.int kd (F j)
theorem gath_succ (F:Nat→Int)(kd:IntKind)(k:Nat):gath F kd (k+1)=gath F kd k++[.int kd (F k)]:=by
 simp[gath,List.range_succ]
theorem gath_at (F:Nat→Int)(kd:IntKind)(n j:Nat)(h:j<n):(gath F kd n)[j]? = some (.int kd (F j)):=by
 simp[gath,h]
theorem aSt {w wr w1:World}{B k:Nat}{e:TypeId}{kd:IntKind}{F:Nat→Int}{v v':Value}{Z:Int}{o:Obj}(hB:B≤wr.heap.size)(hz:Z=F k)(hb:Below B w wr)
  (hown:wr.ownsRow B e 1 v k (gath F kd k)) (hown':w1.ownsRow B e 1 v' (k+1) (gath F kd k++[.int kd Z])) (hg:(wr.alloc o).grownBy w1 v.ownBlock) :
  Below B w w1∧w1.ownsRow B e 1 v' (k+1) (gath F kd (k+1)):=by
 subst hz
 rw[gath_succ]
 exact⟨(hb.alloc hB o).grown hg (by have:=(Below.refl B wr).alloc hB o;have:=this.size;omega) (fun g h=>(hown.lt g h).1),hown'⟩
theorem enters {P : Program} {f : FuncId} {fn : Func} {c : Code} (hf : P.funcs[f]? = some fn) (hname : (fn.name == "runtime.NumGoroutine") = false) (hb : fn.body = some c) (args : Array Value) (w : World) :
  (callFunc f args).run P w=.ok (.enter f args) w:=by
 have h1 : fn.name ≠ "runtime.NumGoroutine" := by simpa using hname
 simp[callFunc,hf,h1,hb]
theorem wpList_copy {P:Program}{ops:Array Oper}{rest:List Oper}{o:Oper}{a:Act}{w:World}{Q:Exit→Act→World→Prop}(hw:Region.wanted o (yielded ops a.tmps)=true)(s x:Operand)(t:TypeId)
  (ho:o.op=.call { callee:=.builtin .append,args:=#[s,x],argTypes:=#[t,t] })
  (base:Nat) (e:TypeId) (i:TypeInfo) (z:Value) (bytes:Nat) (ht:P.underlying t=some (.slice e)) (hi:P.info? e=some i) (hz:i.zero=some z)
  (hsize:i.size=1) (hby:i.bytes=bytes) (hzs:z.cells.size=1)
  (v:Value) (n:Nat) (xs:List Value) (hs:a.eval s=v) (hown:w.ownsRow base e 1 v n xs)
  (k:IntKind) (ao:Option Addr) (m c:Nat) (zs:List Int) (hx:a.eval x=.slice ao m c) (hr:Reads k w ao m zs) (hc:ao=none→c=0)
  (h63:n+m≤maxLen) (hbytes:(n+m)*bytes≤140737488355328) (hbase:base≤w.heap.size)
  (h:∀ v' w',w'.ownsRow base e 1 v' (n+m) (xs++zs.map (Value.int k))→w.grownBy w' v.ownBlock→wpList P ops Q rest (a.put o.dst v') w'):wpList P ops Q (o :: rest) a w:=by
 refine wpList_step fun K hK=>?_
 rw[if_pos hw]
 cases ao with
 | none =>
  obtain rfl:=hc rfl
  have hm:m=0:=by
   by_cases h0:0<m
   ·obtain⟨x,hx⟩:=hr.some_ h0
    cases hx
   ·omega
  subst hm
  obtain rfl:=List.eq_nil_of_length_eq_zero hr.len
  have hrun:=run_append_owned_none (P:=P) (w:=w) base t o.type e i 1 ht hi v n xs hown
  unfold Oper.wp
  simp[execOp,ho,resolve,invoke,builtin,hs,hx,hrun,Result.andThen]
  exact hK _ _ (h v w (by simpa using hown) (World.grownBy.refl _ _))
 | some ad =>
  refine wp_append_own w s x t ho base e i z 1 bytes ht hi hz hsize hby hzs (by decide) v n xs hs hown ad m c (zs.map (Value.int k)) hx (by rw[List.length_map,hr.len];omega) (fun j u hu=>?_) (ints_oneCell _ _) h63 hbytes hbase fun v' w' h2 h3 _=>hK _ _ (h v' w' h2 h3)
  have hj:j<m:=by
   have:=(List.getElem?_eq_some_iff.1 hu).1
   rw[List.length_map,hr.len] at this
   exact this
  rw[hr.cell ad rfl j hj,←hu]
  simp[hr.len,hj]
theorem copy_at (k:IntKind)(zs:List Int)(j:Nat)(h:j<zs.length):(zs.map (Value.int k))[j]? = some (.int k (zs.getD j 0)):=by
 simp[h]
theorem copied {k:IntKind}{e:TypeId}{w W w1:World}{m:Nat}{zs:List Int}{v:Value}(hb:Below w.heap.size w W)(o:Obj)
  (ho:w1.ownsRow w.heap.size e 1 v (0+m) ([]++zs.map (Value.int k))) (hg:(W.alloc o).grownBy w1 (Value.slice (some ⟨W.heap.size,0,none⟩) 0 0).ownBlock) {a:Option Addr}{wz:World} (hr:Reads k wz a m zs) :
  ∃ a c,v=.slice a m c∧Reads k w1 a m zs∧Below w.heap.size w w1∧(a=none→c=0)∧m≤c:=by
 simp only[Nat.zero_add,List.nil_append] at ho
 obtain⟨a',c',rfl,r⟩:=oRe ho hr.len hr.wf_mem (fun j hj=>copy_at k zs j (by rw[hr.len];exact hj))
 have b1:=bNw hb o
 refine⟨a',c',rfl,r,b1.grown hg b1.size (fun g h=>?_),fun ha=>?_,?_⟩
 ·have:g=W.heap.size:=by simpa [Value.ownBlock] using h.symm
  rw[this]
  exact hb.size
 ·subst ha
  rcases ho.2 with⟨h,_⟩|⟨g,cap,cur,h,_⟩
  ·simp only[Value.slice.injEq] at h
   exact h.2.2
  ·simp at h
 ·rcases ho.2 with⟨h,_⟩|⟨g,cap,cur,h,_,_,hn,_⟩
  ·omega
  ·simp only[Value.slice.injEq] at h
   omega
def Stays (w:World)(v v':Value):Prop:=v'.ownBlock=v.ownBlock∨∀ g,v'.ownBlock=some g→w.heap.size≤g
theorem run_append_where {P:Program}(w:World)(base:Nat)(t ty e:TypeId)(i:TypeInfo)(z:Value)(bytes:Nat)(ht:P.underlying t=some (.slice e))(hi:P.info? e=some i)(hz:i.zero=some z)
  (hsize:i.size=1) (hby:i.bytes=bytes) (hzs:z.cells.size=1) (v:Value) (n:Nat) (xs:List Value) (hown:w.ownsRow base e 1 v n xs)
  (ad:Addr) (c:Nat) (V:Value) (hnews:∀ j u,[V][j]? = some u→w.cell? (ad.add j)=some u) (h1:∀ u∈[V],u.oneCell'=true)
  (h63:n+1≤maxLen) (hbytes:(n+1)*bytes≤140737488355328) (hbase:base≤w.heap.size) :
  ∃ v' w',(Builtin.append_ #[t,t] ty #[v,.slice (some ad) 1 c]).run P w=.ok v' w'∧w'.ownsRow base e 1 v' (n+1) (xs++[V])∧w.grownBy w' v.ownBlock∧Stays w v v':=by
 have weak:∀ {w':World}{v':Value}{cs:List Value},w'.ownsRow w.heap.size e 1 v' (n+1) cs→w'.ownsRow base e 1 v' (n+1) cs∧Stays w v v':=by
  intro w' v' cs h
  refine⟨⟨h.1,?_⟩,.inr fun g hg=>(h.lt g hg).1⟩
  rcases h.2 with h2|⟨g,cap,cur,hv,hg,r⟩
  ·exact .inl h2
  ·exact .inr ⟨g,cap,cur,hv,by omega,r⟩
 rcases hown.2 with⟨rfl,rfl⟩|⟨g,cap,cur,rfl,hg,hh,hn,hm,hs,htake⟩
 ·obtain rfl:xs=[]:=List.eq_nil_of_length_eq_zero (by simpa using hown.1)
  obtain⟨v',w',hr,h2,h3,_⟩:=run_append_own (P:=P) w w.heap.size t ty e i z 1 bytes ht hi hz hsize hby hzs (by decide) (.slice none 0 0) 0 [] (World.ownsRow_nil w _ e 1) ad 1 c [V] rfl hnews h1 h63 hbytes (Nat.le_refl _)
  exact⟨v',w',hr,(weak h2).1,h3,(weak h2).2⟩
 ·by_cases hfit:n+1≤cap
  ·obtain⟨w',hr,h2,h3⟩:=run_append_fits (P:=P) w base t ty e i 1 ht hi hsize g n cap xs hown ad 1 c [V] rfl hnews h1 hfit
   exact⟨_,w',hr,h2,h3,.inl rfl⟩
  ·obtain⟨v',w',hr,h2,h3⟩:=run_append_arg_grows (P:=P) w t ty e i z 1 bytes ht hi hz hsize hby hzs (by decide) ⟨g,0,none⟩ n cap xs hown.1 (hown.cells rfl) ad 1 c [V] rfl hnews (by omega) h63 hbytes
   exact⟨v',w',hr,(weak h2).1,⟨h3.os,h3.tape,h3.output,h3.size,fun k hk _=>h3.block k hk (by simp)⟩,(weak h2).2⟩
theorem wp_append_where {P:Program}(w:World){o:Oper}{a:Act}{K:Act→World→Prop}{Q:Exit→Act→World→Prop}(s x:Operand)(t:TypeId)
  (ho:o.op=.call { callee:=.builtin .append,args:=#[s,x],argTypes:=#[t,t] })
  (base:Nat) (e:TypeId) (i:TypeInfo) (z:Value) (bytes:Nat) (ht:P.underlying t=some (.slice e)) (hi:P.info? e=some i) (hz:i.zero=some z)
  (hsize:i.size=1) (hby:i.bytes=bytes) (hzs:z.cells.size=1) (v:Value) (n:Nat) (xs:List Value) (hs:a.eval s=v) (hown:w.ownsRow base e 1 v n xs)
  (ad:Addr) (c:Nat) (V:Value) (hx:a.eval x=.slice (some ad) 1 c) (hnews:∀ j u,[V][j]? = some u→w.cell? (ad.add j)=some u) (h1:∀ u∈[V],u.oneCell'=true)
  (h63:n+1≤maxLen) (hbytes:(n+1)*bytes≤140737488355328) (hbase:base≤w.heap.size)
  (h:∀ v' w',w'.ownsRow base e 1 v' (n+1) (xs++[V])→w.grownBy w' v.ownBlock→Stays w v v'→K (a.put o.dst v') w'):o.wp P a w K Q:=by
 obtain⟨v',w',hr,h2,h3,h4⟩:=run_append_where (P:=P) w base t o.type e i z bytes ht hi hz hsize hby hzs v n xs hown ad c V hnews h1 h63 hbytes hbase
 unfold Oper.wp execOp
 simp only[ho,resolve,invoke,builtin,Sem.run_bind,Sem.run_pure,Result.andThen_ok,List.map_toArray,List.map_cons,List.map_nil,hs,hx,hr]
 exact h v' w' h2 h3 h4
theorem wpList_append_where {P:Program}{w:World}{ops:Array Oper}{rest:List Oper}{o:Oper}{a:Act}{Q:Exit→Act→World→Prop}(hgd:o.guard=none)(s x:Operand)(t:TypeId)
  (ho:o.op=.call { callee:=.builtin .append,args:=#[s,x],argTypes:=#[t,t] })
  (base:Nat) (e:TypeId) (i:TypeInfo) (z:Value) (bytes:Nat) (ht:P.underlying t=some (.slice e)) (hi:P.info? e=some i) (hz:i.zero=some z)
  (hsize:i.size=1) (hby:i.bytes=bytes) (hzs:z.cells.size=1) (v:Value) (n:Nat) (xs:List Value) (hs:a.eval s=v) (hown:w.ownsRow base e 1 v n xs)
  (ad:Addr) (c:Nat) (V:Value) (hx:a.eval x=.slice (some ad) 1 c) (hnews:∀ j u,[V][j]? = some u→w.cell? (ad.add j)=some u) (h1:∀ u∈[V],u.oneCell'=true)
  (h63:n+1≤maxLen) (hbytes:(n+1)*bytes≤140737488355328) (hbase:base≤w.heap.size)
  (h:∀ v' w',w'.ownsRow base e 1 v' (n+1) (xs++[V])→w.grownBy w' v.ownBlock→Stays w v v'→wpList P ops Q rest (a.put o.dst v') w'):wpList P ops Q (o :: rest) a w :=
 wpList_plain hgd fun _ hK=>wp_append_where w s x t ho base e i z bytes ht hi hz hsize hby hzs v n xs hs hown ad c V hx hnews h1 h63 hbytes hbase fun v' w' h2 h3 h4=>hK _ _ (h v' w' h2 h3 h4)
theorem below_append {w wr w':World}{e:TypeId}{v:Value}{n:Nat}{xs:List Value}(hb:Below w.heap.size w wr)(ho:wr.ownsRow w.heap.size e 1 v n xs)(hg:wr.grownBy w' v.ownBlock):Below w.heap.size w w' :=
 hb.grown hg hb.size fun g h=>(ho.lt g h).1
theorem hdn {p:Prop}(h:p):Hid p:=h
def headsB (d h:Int):Bool:=decide (2≤d∧d≤8∧1≤h∧d%h=0∧d/h%2=0)
def expertsB (x t:Int):Bool:=decide ((x=0∧t=0)∨(2≤x∧x≤4∧1≤t∧t≤x))
theorem within_call (n a b:Int)(w:World):Calls Tryz.prog 101 #[.int .i64 n,.int .i64 a,.int .i64 b] w fun e w'=>e=.returned (.bool (decide (a≤n∧n≤b)))∧w'=w:=by
 by_cases h1:a≤n
 ·by_cases h2:n≤b
  ·rw[show decide (a≤n∧n≤b)=true by simp[h1,h2]]
   go_enter Tryz.func101,Tryz.ntmps101
   go_wp2
   go_ret
   exact⟨rfl,rfl⟩
  ·rw[show decide (a≤n∧n≤b)=false by simp[h2]]
   go_enter Tryz.func101,Tryz.ntmps101
   go_wp2
   go_ret
   exact⟨rfl,rfl⟩
 ·rw[show decide (a≤n∧n≤b)=false by simp[h1]]
  go_enter Tryz.func101,Tryz.ntmps101
  go_wp2
  go_ret
  exact⟨rfl,rfl⟩
theorem in_call (n a b:Int)(w:World):Calls Tryz.prog 90 #[.int .i64 n,.int .i64 a,.int .i64 b] w fun e w'=>e=.returned (.bool (decide (a≤n∧n≤b)))∧w'=w:=by
 by_cases h1:a≤n
 ·by_cases h2:n≤b
  ·rw[show decide (a≤n∧n≤b)=true by simp[h1,h2]]
   go_enter Tryz.func90,Tryz.ntmps90
   go_wp2
   go_ret
   exact⟨rfl,rfl⟩
  ·rw[show decide (a≤n∧n≤b)=false by simp[h2]]
   go_enter Tryz.func90,Tryz.ntmps90
   go_wp2
   go_ret
   exact⟨rfl,rfl⟩
 ·rw[show decide (a≤n∧n≤b)=false by simp[h1]]
  go_enter Tryz.func90,Tryz.ntmps90
  go_wp2
  go_ret
  exact⟨rfl,rfl⟩
theorem heads_no0 {d h:Int}(x:¬(2≤d∧d≤8)):headsB d h=false:=decide_eq_false fun y=>x ⟨y.1,y.2.1⟩
theorem heads_no1 {d h:Int}(x:h<1):headsB d h=false:=decide_eq_false fun y=>by have:=y.2.2.1;omega
theorem heads_no2 {d h:Int}(x:¬d%h=0):headsB d h=false:=decide_eq_false fun y=>x y.2.2.2.1
theorem heads_yes {d h:Int}(x:2≤d∧d≤8)(y:1≤h)(z:d%h=0):headsB d h=((d/h).tmod 2==0):=by
 have e:(d/h).tmod 2=d/h%2:=Int.tmod_eq_emod_of_nonneg (Int.ediv_nonneg (by have:=x.1;omega) (by omega))
 rw[e]
 unfold headsB
 by_cases g:d/h%2=0
 ·rw[decide_eq_true ⟨x.1,x.2,y,z,g⟩,g];rfl
 ·rw[decide_eq_false (fun u=>g u.2.2.2.2)]
  exact (beq_false_of_ne g).symm
theorem rightHeads_call (d h l v u x t n:Int)(w:World):Calls Tryz.prog 99 #[.agg #[.int .i64 d,.int .i64 h,.int .i64 l,.int .i64 v,.int .i64 u,.int .i64 x,.int .i64 t,.int .i64 n]] w fun e w'=>e=.returned (.bool (headsB d h))∧Below w.heap.size w w':=by
 have k1:=within_call d 2 8
 by_cases g0:2≤d∧d≤8
 ·simp only[decide_eq_true g0] at k1
  by_cases g1:h<1
  ·rw[heads_no1 g1]
   go_enter Tryz.func99,Tryz.ntmps99
   go_wp2_with (first|(go_at_call 101;refine (k1 _).mono ?_;rintro e w' ⟨rfl,rfl⟩))
   go_ret
   exact⟨rfl,(Below.refl _ w).alloc (Nat.le_refl _) _⟩
  ·have g1':1≤h:=by omega
   obtain⟨g3,g4⟩:=g0
   by_cases g2:d%h=0
   ·rw[heads_yes ⟨g3,g4⟩ g1' g2]
    go_enter Tryz.func99,Tryz.ntmps99
    go_wp2_with (first|(go_at_call 101;refine (k1 _).mono ?_;rintro e w' ⟨rfl,rfl⟩))
    go_ret
    exact⟨rfl,(Below.refl _ w).alloc (Nat.le_refl _) _⟩
   ·rw[heads_no2 g2]
    go_enter Tryz.func99,Tryz.ntmps99
    go_wp2_with (first|(go_at_call 101;refine (k1 _).mono ?_;rintro e w' ⟨rfl,rfl⟩))
    go_ret
    exact⟨rfl,(Below.refl _ w).alloc (Nat.le_refl _) _⟩
 ·simp only[decide_eq_false g0] at k1
  rw[heads_no0 g0]
  clear g0
  go_enter Tryz.func99,Tryz.ntmps99
  go_wp2_with (first|(go_at_call 101;refine (k1 _).mono ?_;rintro e w' ⟨rfl,rfl⟩))
  go_ret
  exact⟨rfl,(Below.refl _ w).alloc (Nat.le_refl _) _⟩
theorem rightExperts_call (d h l v u x t n:Int)(w:World):Calls Tryz.prog 100 #[.agg #[.int .i64 d,.int .i64 h,.int .i64 l,.int .i64 v,.int .i64 u,.int .i64 x,.int .i64 t,.int .i64 n]] w fun e w'=>e=.returned (.bool (expertsB x t))∧Below w.heap.size w w':=by
 by_cases g0:x=0
 ·subst g0
  have e:expertsB 0 t=(t==0):=by
   unfold expertsB
   rw[Bool.eq_iff_iff]
   simp
  rw[e]
  clear e
  go_enter Tryz.func100,Tryz.ntmps100
  go_wp2
  go_ret
  exact⟨rfl,(Below.refl _ w).alloc (Nat.le_refl _) _⟩
 ·have k1:=within_call x 2 4
  have k2:=within_call t 1 x
  have g0':(x==0)=false:=by simp[g0]
  by_cases g1:2≤x∧x≤4
  ·have e:expertsB x t=decide (1≤t∧t≤x):=by
    unfold expertsB
    rw[Bool.eq_iff_iff]
    simp
    omega
   rw[e]
   clear e
   simp only[decide_eq_true g1] at k1
   clear g1 g0
   obtain⟨B,eB⟩:∃ B,decide (1≤t∧t≤x)=B:=⟨_,rfl⟩
   simp only[eB] at k2 ⊢
   clear eB
   go_enter Tryz.func100,Tryz.ntmps100
   go_wp2_with (first|(go_at_call_of 101 t;clear k1;refine (k2 _).mono ?_;rintro e w' ⟨rfl,rfl⟩)|(go_at_call 101;refine (k1 _).mono ?_;rintro e w' ⟨rfl,rfl⟩))
   go_ret
   exact⟨rfl,(Below.refl _ w).alloc (Nat.le_refl _) _⟩
  ·have e:expertsB x t=false:=by
    unfold expertsB
    rw[Bool.eq_iff_iff]
    simp
    omega
   rw[e]
   clear e
   simp only[decide_eq_false g1] at k1
   clear g1 g0 k2
   go_enter Tryz.func100,Tryz.ntmps100
   go_wp2_with (first|(go_at_call 101;refine (k1 _).mono ?_;rintro e w' ⟨rfl,rfl⟩))
   go_ret
   exact⟨rfl,(Below.refl _ w).alloc (Nat.le_refl _) _⟩
def okB (d h l v u x t n:Int):Bool:=headsB d h && (expertsB x t && (decide (1≤l∧l≤2) && (decide (2≤v∧v≤16) && (decide (1≤u∧u≤8) && decide (0≤n∧n≤16)))))
def Blk (t:TypeId)(w:World)(b:Nat)(cs:Array Value):Prop:=w.heap[b]? = some (.cells cs t (0,0))
theorem Blk.lt {t:TypeId}{w:World}{b:Nat}{cs:Array Value}(h:Blk t w b cs):b<w.heap.size:=(Array.getElem?_eq_some_iff.1 h).1
theorem Blk.cell {t:TypeId}{w:World}{b:Nat}{cs:Array Value}(h:Blk t w b cs)(i:Nat){v:Value}(hi:cs[i]? = some v):w.cell? ⟨b,i,none⟩=some v:=by simp[World.cell?,show w.heap[b]? = _ from h,hi]
theorem Blk.open_ {t:TypeId}{w:World}{b:Nat}{cs:Array Value}(h:Blk t w b cs)(i:Nat):w.frozen? ⟨b,i,none⟩=false:=by simp[World.frozen?,show w.heap[b]? = _ from h]
theorem Blk.new (t:TypeId)(w:World)(cs:Array Value):Blk t (w.alloc (.cells cs t)) w.heap.size cs:=heap_alloc_new w _
theorem Blk.kept {t:TypeId}{w w':World}{b:Nat}{cs:Array Value}(h:Blk t w b cs)(hb:Below w.heap.size w w'):Blk t w' b cs:=(hb.block b h.lt).trans h
theorem Blk.set {t:TypeId}{w:World}{b:Nat}{cs:Array Value}(h:Blk t w b cs)(i:Nat)(v:Value):Blk t (w.setCell ⟨b,i,none⟩ v) b (cs.setIfInBounds i v):=by
 have e:w.heap[b]? = some (.cells cs t (0,0)):=h
 have h1:=setCell_eq_setRow w b i cs t (0,0) v e
 have h2:=setRow_heap w b cs (cs.setIfInBounds i v) t (0,0) e
 show (w.setCell ⟨b,i,none⟩ v).heap[b]? = _
 rw[h1]
 exact h2
theorem Blk.cfg {t0:TypeId}{w:World}{b:Nat}{d h l v u x t n:Int}(k:Blk t0 w b #[.int .i64 d,.int .i64 h,.int .i64 l,.int .i64 v,.int .i64 u,.int .i64 x,.int .i64 t,.int .i64 n]) :
  w.cell? ⟨b,0,none⟩=some (.int .i64 d)∧w.cell? ⟨b,1,none⟩=some (.int .i64 h)∧w.cell? ⟨b,2,none⟩=some (.int .i64 l)∧w.cell? ⟨b,3,none⟩=some (.int .i64 v) ∧
  w.cell? ⟨b,4,none⟩=some (.int .i64 u)∧w.cell? ⟨b,5,none⟩=some (.int .i64 x)∧w.cell? ⟨b,6,none⟩=some (.int .i64 t)∧w.cell? ⟨b,7,none⟩=some (.int .i64 n) :=
 ⟨k.cell 0 rfl,k.cell 1 rfl,k.cell 2 rfl,k.cell 3 rfl,k.cell 4 rfl,k.cell 5 rfl,k.cell 6 rfl,k.cell 7 rfl⟩
theorem config_walk (d h l v u x t n:Int)(w:World)(B1 B2 B3 B4 B5 B6:Bool)
  (k1:∀ w,Calls Tryz.prog 99 #[.agg #[.int .i64 d,.int .i64 h,.int .i64 l,.int .i64 v,.int .i64 u,.int .i64 x,.int .i64 t,.int .i64 n]] w fun e w'=>e=.returned (.bool B1)∧Below w.heap.size w w')
  (k2:∀ w,Calls Tryz.prog 100 #[.agg #[.int .i64 d,.int .i64 h,.int .i64 l,.int .i64 v,.int .i64 u,.int .i64 x,.int .i64 t,.int .i64 n]] w fun e w'=>e=.returned (.bool B2)∧Below w.heap.size w w')
  (k3:∀ w,Calls Tryz.prog 101 #[.int .i64 l,.int .i64 1,.int .i64 2] w fun e w'=>e=.returned (.bool B3)∧w'=w)
  (k4:∀ w,Calls Tryz.prog 101 #[.int .i64 v,.int .i64 2,.int .i64 16] w fun e w'=>e=.returned (.bool B4)∧w'=w)
  (k5:∀ w,Calls Tryz.prog 101 #[.int .i64 u,.int .i64 1,.int .i64 8] w fun e w'=>e=.returned (.bool B5)∧w'=w)
  (k6:∀ w,Calls Tryz.prog 101 #[.int .i64 n,.int .i64 0,.int .i64 16] w fun e w'=>e=.returned (.bool B6)∧w'=w) :
  Calls Tryz.prog 62 #[.agg #[.int .i64 d,.int .i64 h,.int .i64 l,.int .i64 v,.int .i64 u,.int .i64 x,.int .i64 t,.int .i64 n]] w fun e w'=>e=.returned (.bool (B1 && (B2 && (B3 && (B4 && (B5 && B6))))))∧Below w.heap.size w w':=by
 have hb:=bNw (Below.refl w.heap.size w) (.cells #[.int .i64 d,.int .i64 h,.int .i64 l,.int .i64 v,.int .i64 u,.int .i64 x,.int .i64 t,.int .i64 n] 23)
 have key:=Blk.new 23 w #[.int .i64 d,.int .i64 h,.int .i64 l,.int .i64 v,.int .i64 u,.int .i64 x,.int .i64 t,.int .i64 n]
 cases B1 with
 | false =>
  go_enter Tryz.func62,Tryz.ntmps62
  go_wp2_with (first
    | (go_at_call 99;refine (k1 _).mono ?_;rintro e W1 ⟨rfl,h1⟩;clear k1;obtain⟨c0,c1,c2,c3,c4,c5,c6,c7⟩:=(key.kept h1).cfg;replace key:=key.kept h1;replace hb:=bTn hb h1;clear h1)
    | (go_at_call 100;refine (k2 _).mono ?_;rintro e W2 ⟨rfl,h2⟩;clear k2 c0 c1 c2 c3 c4 c5 c6 c7;obtain⟨c0,c1,c2,c3,c4,c5,c6,c7⟩:=(key.kept h2).cfg;replace hb:=bTn hb h2;clear h2)
    | (go_at_call_of 101 l;refine (k3 _).mono ?_;rintro e W3 ⟨rfl,h3⟩;obtain rfl:=h3.symm)
    | (go_at_call_of 101 v;refine (k4 _).mono ?_;rintro e W4 ⟨rfl,h4⟩;obtain rfl:=h4.symm)
    | (go_at_call_of 101 u;refine (k5 _).mono ?_;rintro e W5 ⟨rfl,h5⟩;obtain rfl:=h5.symm)
    | (go_at_call_of 101 n;refine (k6 _).mono ?_;rintro e W6 ⟨rfl,h6⟩;obtain rfl:=h6.symm))
  go_ret
  exact⟨rfl,hb⟩
 | true =>
  cases B2 with
  | false =>
   go_enter Tryz.func62,Tryz.ntmps62
   go_wp2_with (first
     | (go_at_call 99;refine (k1 _).mono ?_;rintro e W1 ⟨rfl,h1⟩;clear k1;obtain⟨c0,c1,c2,c3,c4,c5,c6,c7⟩:=(key.kept h1).cfg;replace key:=key.kept h1;replace hb:=bTn hb h1;clear h1)
     | (go_at_call 100;refine (k2 _).mono ?_;rintro e W2 ⟨rfl,h2⟩;clear k2 c0 c1 c2 c3 c4 c5 c6 c7;obtain⟨c0,c1,c2,c3,c4,c5,c6,c7⟩:=(key.kept h2).cfg;replace hb:=bTn hb h2;clear h2)
     | (go_at_call_of 101 l;refine (k3 _).mono ?_;rintro e W3 ⟨rfl,h3⟩;obtain rfl:=h3.symm)
     | (go_at_call_of 101 v;refine (k4 _).mono ?_;rintro e W4 ⟨rfl,h4⟩;obtain rfl:=h4.symm)
     | (go_at_call_of 101 u;refine (k5 _).mono ?_;rintro e W5 ⟨rfl,h5⟩;obtain rfl:=h5.symm)
     | (go_at_call_of 101 n;refine (k6 _).mono ?_;rintro e W6 ⟨rfl,h6⟩;obtain rfl:=h6.symm))
   go_ret
   exact⟨rfl,hb⟩
  | true =>
   cases B3 with
   | false =>
    go_enter Tryz.func62,Tryz.ntmps62
    go_wp2_with (first
      | (go_at_call 99;refine (k1 _).mono ?_;rintro e W1 ⟨rfl,h1⟩;clear k1;obtain⟨c0,c1,c2,c3,c4,c5,c6,c7⟩:=(key.kept h1).cfg;replace key:=key.kept h1;replace hb:=bTn hb h1;clear h1)
      | (go_at_call 100;refine (k2 _).mono ?_;rintro e W2 ⟨rfl,h2⟩;clear k2 c0 c1 c2 c3 c4 c5 c6 c7;obtain⟨c0,c1,c2,c3,c4,c5,c6,c7⟩:=(key.kept h2).cfg;replace hb:=bTn hb h2;clear h2)
      | (go_at_call_of 101 l;refine (k3 _).mono ?_;rintro e W3 ⟨rfl,h3⟩;obtain rfl:=h3.symm)
      | (go_at_call_of 101 v;refine (k4 _).mono ?_;rintro e W4 ⟨rfl,h4⟩;obtain rfl:=h4.symm)
      | (go_at_call_of 101 u;refine (k5 _).mono ?_;rintro e W5 ⟨rfl,h5⟩;obtain rfl:=h5.symm)
      | (go_at_call_of 101 n;refine (k6 _).mono ?_;rintro e W6 ⟨rfl,h6⟩;obtain rfl:=h6.symm))
    go_ret
    exact⟨rfl,hb⟩
   | true =>
    cases B4 with
    | false =>
     go_enter Tryz.func62,Tryz.ntmps62
     go_wp2_with (first
       | (go_at_call 99;refine (k1 _).mono ?_;rintro e W1 ⟨rfl,h1⟩;clear k1;obtain⟨c0,c1,c2,c3,c4,c5,c6,c7⟩:=(key.kept h1).cfg;replace key:=key.kept h1;replace hb:=bTn hb h1;clear h1)
       | (go_at_call 100;refine (k2 _).mono ?_;rintro e W2 ⟨rfl,h2⟩;clear k2 c0 c1 c2 c3 c4 c5 c6 c7;obtain⟨c0,c1,c2,c3,c4,c5,c6,c7⟩:=(key.kept h2).cfg;replace hb:=bTn hb h2;clear h2)
       | (go_at_call_of 101 l;refine (k3 _).mono ?_;rintro e W3 ⟨rfl,h3⟩;obtain rfl:=h3.symm)
       | (go_at_call_of 101 v;refine (k4 _).mono ?_;rintro e W4 ⟨rfl,h4⟩;obtain rfl:=h4.symm)
       | (go_at_call_of 101 u;refine (k5 _).mono ?_;rintro e W5 ⟨rfl,h5⟩;obtain rfl:=h5.symm)
       | (go_at_call_of 101 n;refine (k6 _).mono ?_;rintro e W6 ⟨rfl,h6⟩;obtain rfl:=h6.symm))
     go_ret
     exact⟨rfl,hb⟩
    | true =>
     cases B5 with
     | false =>
      go_enter Tryz.func62,Tryz.ntmps62
      go_wp2_with (first
        | (go_at_call 99;refine (k1 _).mono ?_;rintro e W1 ⟨rfl,h1⟩;clear k1;obtain⟨c0,c1,c2,c3,c4,c5,c6,c7⟩:=(key.kept h1).cfg;replace key:=key.kept h1;replace hb:=bTn hb h1;clear h1)
        | (go_at_call 100;refine (k2 _).mono ?_;rintro e W2 ⟨rfl,h2⟩;clear k2 c0 c1 c2 c3 c4 c5 c6 c7;obtain⟨c0,c1,c2,c3,c4,c5,c6,c7⟩:=(key.kept h2).cfg;replace hb:=bTn hb h2;clear h2)
        | (go_at_call_of 101 l;refine (k3 _).mono ?_;rintro e W3 ⟨rfl,h3⟩;obtain rfl:=h3.symm)
        | (go_at_call_of 101 v;refine (k4 _).mono ?_;rintro e W4 ⟨rfl,h4⟩;obtain rfl:=h4.symm)
        | (go_at_call_of 101 u;refine (k5 _).mono ?_;rintro e W5 ⟨rfl,h5⟩;obtain rfl:=h5.symm)
        | (go_at_call_of 101 n;refine (k6 _).mono ?_;rintro e W6 ⟨rfl,h6⟩;obtain rfl:=h6.symm))
      go_ret
      exact⟨rfl,hb⟩
     | true =>
      cases B6 with
      | false =>
       go_enter Tryz.func62,Tryz.ntmps62
       go_wp2_with (first
         | (go_at_call 99;refine (k1 _).mono ?_;rintro e W1 ⟨rfl,h1⟩;clear k1;obtain⟨c0,c1,c2,c3,c4,c5,c6,c7⟩:=(key.kept h1).cfg;replace key:=key.kept h1;replace hb:=bTn hb h1;clear h1)
         | (go_at_call 100;refine (k2 _).mono ?_;rintro e W2 ⟨rfl,h2⟩;clear k2 c0 c1 c2 c3 c4 c5 c6 c7;obtain⟨c0,c1,c2,c3,c4,c5,c6,c7⟩:=(key.kept h2).cfg;replace hb:=bTn hb h2;clear h2)
         | (go_at_call_of 101 l;refine (k3 _).mono ?_;rintro e W3 ⟨rfl,h3⟩;obtain rfl:=h3.symm)
         | (go_at_call_of 101 v;refine (k4 _).mono ?_;rintro e W4 ⟨rfl,h4⟩;obtain rfl:=h4.symm)
         | (go_at_call_of 101 u;refine (k5 _).mono ?_;rintro e W5 ⟨rfl,h5⟩;obtain rfl:=h5.symm)
         | (go_at_call_of 101 n;refine (k6 _).mono ?_;rintro e W6 ⟨rfl,h6⟩;obtain rfl:=h6.symm))
       go_ret
       exact⟨rfl,hb⟩
      | true =>
       go_enter Tryz.func62,Tryz.ntmps62
       go_wp2_with (first
         | (go_at_call 99;refine (k1 _).mono ?_;rintro e W1 ⟨rfl,h1⟩;clear k1;obtain⟨c0,c1,c2,c3,c4,c5,c6,c7⟩:=(key.kept h1).cfg;replace key:=key.kept h1;replace hb:=bTn hb h1;clear h1)
         | (go_at_call 100;refine (k2 _).mono ?_;rintro e W2 ⟨rfl,h2⟩;clear k2 c0 c1 c2 c3 c4 c5 c6 c7;obtain⟨c0,c1,c2,c3,c4,c5,c6,c7⟩:=(key.kept h2).cfg;replace hb:=bTn hb h2;clear h2)
         | (go_at_call_of 101 l;refine (k3 _).mono ?_;rintro e W3 ⟨rfl,h3⟩;obtain rfl:=h3.symm)
         | (go_at_call_of 101 v;refine (k4 _).mono ?_;rintro e W4 ⟨rfl,h4⟩;obtain rfl:=h4.symm)
         | (go_at_call_of 101 u;refine (k5 _).mono ?_;rintro e W5 ⟨rfl,h5⟩;obtain rfl:=h5.symm)
         | (go_at_call_of 101 n;refine (k6 _).mono ?_;rintro e W6 ⟨rfl,h6⟩;obtain rfl:=h6.symm))
       go_ret
       exact⟨rfl,hb⟩
theorem config_call (d h l v u x t n:Int)(w:World):Calls Tryz.prog 62 #[.agg #[.int .i64 d,.int .i64 h,.int .i64 l,.int .i64 v,.int .i64 u,.int .i64 x,.int .i64 t,.int .i64 n]] w fun e w'=>e=.returned (.bool (okB d h l v u x t n))∧Below w.heap.size w w' :=
 config_walk d h l v u x t n w _ _ _ _ _ _ (rightHeads_call d h l v u x t n) (rightExperts_call d h l v u x t n) (within_call l 1 2) (within_call v 2 16) (within_call u 1 8) (within_call n 0 16)
structure Grid (w:World) (a:Option Addr) (n:Nat) (A:Nat→Option Addr) (C:Nat→Nat) (R:Nat→List Int):Prop where
 max:n≤9223372036854775807
 some_:0<n→∃ x,a=some x
 cell:∀ x,a=some x→∀ r,r<n→w.cell? (x.add r)=some (.slice (A r) (R r).length (C r))
 row:∀ r,r<n→Reads .i64 w (A r) (R r).length (R r)
theorem Grid.below {w w':World}{a:Option Addr}{n:Nat}{A:Nat→Option Addr}{C:Nat→Nat}{R:Nat→List Int}(h:Grid w a n A C R)(hb:Below w.heap.size w w'):Grid w' a n A C R :=
 ⟨h.max,h.some_,fun x hx r hr=>(hb.cell (World.block_lt_of_cell? w _ (h.cell x hx r hr))).trans (h.cell x hx r hr),fun r hr=>(h.row r hr).below hb⟩
def placeZ (n:Int):Int:=n%16
theorem tab_cell (L:List Int)(k:Nat)(h:k<L.length):(L.map (Value.int .i64)).toArray[k]? = some (.int .i64 (L.getD k 0)):=by
 simp[h]
def tabP:List Int:=[65536,62757,60097,57549,55109,52773,50535,48393,46341,44376,42495,40693,38968,37316,35734,34219,32768]
def powZ (i:Int):Int:=tabP.getD i.toNat 0
def tabC:List Int:=[65536,60547,46341,25080,0,-25080,-46341,-60547,-65536,-60547,-46341,-25080,0,25080,46341,60547]
def tabS:List Int:=[0,25080,46341,60547,65536,60547,46341,25080,0,-25080,-46341,-60547,-65536,-60547,-46341,-25080]
def cosZ (n:Int):Int:=tabC.getD (placeZ n).toNat 0
def sinZ (n:Int):Int:=tabS.getD (placeZ n).toNat 0
theorem powZ_nat:∀ k:Nat,k<16→0≤tabP.getD k 0-tabP.getD (k+1) 0∧tabP.getD k 0-tabP.getD (k+1) 0≤3000∧32768≤tabP.getD (k+1) 0∧tabP.getD k 0≤65536:=by
 decide
theorem powZ_steps (i:Int)(h0:0≤i)(h1:i<16):0≤powZ i-powZ (i+1)∧powZ i-powZ (i+1)≤3000∧32768≤powZ (i+1)∧powZ i≤65536:=by
 have h:=powZ_nat i.toNat (by omega)
 have e:(i+1).toNat=i.toNat+1:=by omega
 unfold powZ
 rw[e]
 exact h
def betweenZ (f:Int):Int:=powZ (f/4096)-(powZ (f/4096)-powZ (f/4096+1))*(f%4096)/4096
theorem prod_bounds (d g:Int)(d0:0≤d)(d1:d≤3000)(g0:0≤g)(g1:g<4096):0≤d*g∧d*g≤d*4095 :=
 ⟨Int.mul_nonneg d0 g0,Int.mul_le_mul_of_nonneg_left (by omega) d0⟩
theorem between_call (f:Int)(h0:0≤f)(h1:f<65536)(w:World) :
  Calls Tryz.prog 196 #[.int .i64 f] w fun e w'=>e=.returned (.int .i64 (betweenZ f))∧Below w.heap.size w w':=by
 have i0:0≤f/4096:=by omega
 have i1:f/4096<17:=by omega
 have i2:f/4096+1<17:=by omega
 have s:=powZ_steps (f/4096) i0 (by omega)
 have m:=prod_bounds (powZ (f/4096)-powZ (f/4096+1)) (f%4096) s.1 s.2.1 (by omega) (by omega)
 unfold betweenZ
 obtain⟨p,ep⟩:∃ p,powZ (f/4096)=p:=⟨_,rfl⟩
 obtain⟨q,eq⟩:∃ q,powZ (f/4096+1)=q:=⟨_,rfl⟩
 rw[ep,eq] at s m ⊢
 have EP:Hid (powZ (f/4096)=p):=ep
 have EQ:Hid (powZ (f/4096+1)=q):=eq
 clear ep eq
 obtain⟨s1,s2,s3,s4⟩:=s
 obtain⟨m1,m2⟩:=m
 go_enter Tryz.func196,Tryz.ntmps196
 go_wp2
 generalize hW:w.alloc (Obj.cells _ _)=W1
 have hW':w.alloc (Obj.cells (tabP.map (Value.int .i64)).toArray 235)=W1:=hW
 have hg:Below w.heap.size w W1:=by rw[←hW];exact bNw (Below.refl _ w) _
 have c1:W1.cell? ⟨w.heap.size,(f/4096).toNat,none⟩=some (.int .i64 p):=by
  rw[←hW',World.cell?_alloc_new,←EP.out];exact tab_cell _ _ (by show _<17;omega)
 have c2:W1.cell? ⟨w.heap.size,(f/4096+1).toNat,none⟩=some (.int .i64 q):=by
  rw[←hW',World.cell?_alloc_new,←EQ.out];exact tab_cell _ _ (by show _<17;omega)
 clear hW hW'
 go_quiet (fail)
 go_wp2
 go_ret
 exact⟨rfl,bDr hg ⟨_,rfl⟩⟩
theorem tab_get (L:List Int)(k:Nat)(h:k<(L.map (Value.int .i64)).length):Ending.returned (L.map (Value.int .i64))[k]=.returned (.int .i64 (L.getD k 0)):=by
 have h':k<L.length:=by simpa using h
 simp[h']
theorem below_one {w w':World}(h:∃ o,w'=w.alloc o):Below w.heap.size w w':=by
 obtain⟨o,rfl⟩:=h
 exact bNw (Below.refl _ _) o
theorem fits_yes (a0:Option Addr)(d c0:Nat)(a1:Option Addr)(n c1:Nat)(A:Nat→Option Addr)(C:Nat→Nat)(K:Nat→List Int)(a2:Option Addr)(c2:Nat)(A':Nat→Option Addr)(C':Nat→Nat)(V:Nat→List Int)(w:World)
  (h1:Grid w a1 n A C K) (h2:Grid w a2 n A' C' V) (hd:0<d) (hn:0<n) (hr:∀ r,r<n→(K r).length=d∧(V r).length=d) :
  Calls Tryz.prog 177 #[.slice a0 d c0,.slice a1 n c1,.slice a2 n c2] w fun e w'=>e=.returned (.bool true)∧w'=w:=by
 have hm:=h1.max
 have zd:((d:Int)==0)=false:=by simp;omega
 have zn:((n:Int)==0)=false:=by simp;omega
 obtain⟨x,rfl⟩:=h1.some_ hn
 obtain⟨y,rfl⟩:=h2.some_ hn
 have c1':=fun k (hk:k<n)=>(hr k hk).1 ▸ h1.cell x rfl k hk
 have c2':=fun k (hk:k<n)=>(hr k hk).2 ▸ h2.cell y rfl k hk
 clear h1 h2 hr
 go_enter Tryz.func177,Tryz.ntmps177
 go_wp2
 go_loopw [25] (fun i wr=>∃ k:Nat,k≤n∧i=.int .i64 k∧wr=w) (fun i _=>n-(intOf i).toNat)
 case atStart=>exact⟨0,Nat.zero_le _,rfl,rfl⟩
 case round =>
  obtain⟨k,hk,rfl,hw⟩:=hrel
  subst hw
  by_cases hlt:k<n
  ·have cx:=c1' k hlt
   have cy:=c2' k hlt
   clear c1' c2'
   go_wp2
   go_roundw
   case rel=>exact⟨k+1,by omega,by go_num,trivial⟩
   case measure=>simp[intOf];omega
  ·have e:k=n:=by omega
   subst e
   go_wp2
   go_ret
   exact⟨rfl,rfl⟩
theorem Reads.setOff {k:IntKind}{W:World}{a p:Addr}{n:Nat}{zs:List Int}(h:Reads k W (some a) n zs)(hp:p.block≠a.block)(v:Value):Reads k (W.setCell p v) (some a) n zs :=
 ⟨h.len,h.max,h.wf,h.some_,fun x hx i hi=>by
  obtain rfl:=Option.some.inj hx
  rw[World.cell?_setCell_other _ _ _ _ (fun e=>hp (by rw[e];unfold Addr.add;split<;>rfl))]
  exact h.cell a rfl i hi⟩
theorem face_box {w W1:World}(hb:Below (w.alloc (.cells #[.int .i64 0] 40)).heap.size (w.alloc (.cells #[.int .i64 0] 40)) W1) :
  W1.cell? ⟨w.heap.size,0,none⟩=some (.int .i64 0)∧W1.frozen? ⟨w.heap.size,0,none⟩=false∧Below w.heap.size w W1:=by
 have hs:w.heap.size<(w.alloc (.cells #[.int .i64 0] 40)).heap.size:=by simp
 refine⟨(hb.cell hs).trans (by rw[World.cell?_alloc_new];rfl),(hb.frozen hs).trans (by simp),?_⟩
 exact (bNw (Below.refl _ w) _).trans (hb.mono (by omega))
theorem Reads.of_open {k:IntKind}{w:World}{x:Addr}{n c:Nat}{zs:List Int}(hl:n≤c)(hm:c≤maxLen)(hz:zs.length=c)
  (hc:∀ i,i<zs.length→w.cell? (x.add i)=some (.int k (zs.getD i 0))) (hw:∀ z∈zs,(Lit.int k z).wf=true):Reads k w (some x) n (zs.take n):=by
 refine Reads.of_row (by rw[List.length_take];omega) (by unfold maxLen at hm;omega) (fun z h=>hw z (List.mem_of_mem_take h)) fun i hi=>?_
 rw[hc i (by omega)]
 have e:(zs.take n).getD i 0=zs.getD i 0:=by simp[List.getD,hi]
 rw[e]
def setFrom (b:Nat):Nat→List Value→World→World
 | _,[],W=>W
 | i,v :: vs,W=>setFrom b (i+1) vs (W.setCell ⟨b,i,none⟩ v)
theorem setFrom_below (b:Nat){B:Nat}(hB:B≤b):∀ (vs:List Value) (i:Nat) (w W:World),Below B w W→Below B w (setFrom b i vs W)
 | [],_,_,_,h=>h
 | v :: vs,i,w,W,h=>setFrom_below b hB vs (i+1) w _ (h.setCell hB v)
theorem setFrom_other (b g:Nat)(hg:g≠b):∀ (vs:List Value) (i:Nat) (W:World),(setFrom b i vs W).heap[g]? = W.heap[g]?
 | [],_,_=>rfl
 | v :: vs,i,W=>(setFrom_other b g hg vs (i+1) _).trans (Below.heap_setCell _ _ _ _ hg)
theorem setFrom_blk (t:TypeId)(b:Nat):∀ (vs os pre:List Value) (W:World),os.length=vs.length→Blk t W b (pre++os).toArray→Blk t (setFrom b pre.length vs W) b (pre++vs).toArray
 | [],os,pre,W,hl,h=>by
  obtain rfl:=List.eq_nil_of_length_eq_zero hl
  exact h
 | v :: vs,o :: os,pre,W,hl,h=>by
  have h1:=h.set pre.length v
  have e:(pre++o :: os).toArray.setIfInBounds pre.length v=((pre++[v])++os).toArray:=by simp
  rw[e] at h1
  have k:=setFrom_blk t b vs os (pre++[v]) _ (by simpa using hl) h1
  rw[List.length_append,List.append_assoc] at k
  exact k
theorem setFrom_all {t:TypeId}{b:Nat}{W:World}{cs:Array Value}(h:Blk t W b cs)(vs:List Value)(hl:cs.size=vs.length):Blk t (setFrom b 0 vs W) b vs.toArray :=
 setFrom_blk t b vs cs.toList [] W (by simpa using hl) (by simpa using h)
theorem Reads.store {k:IntKind}{w:World}{a:Option Addr}{n:Nat}{zs:List Int}(h:Reads k w a n zs){q:Addr}{b:Option Addr}{m c:Nat}(hq:w.cell? q=some (.slice b m c))(u:Value):Reads k (w.setCell q u) a n zs :=
 ⟨h.len,h.max,h.wf,h.some_,fun x hx i hi=>by
  have hc:=h.cell x hx i hi
  have ne:q≠x.add i:=fun e=>by rw[←e] at hc;rw[hq] at hc;cases hc
  rw[World.cell?_setCell_other (h:=ne)]
  exact hc⟩
theorem Reads.setFrom {t:TypeId}{w:World}{a:Option Addr}{n:Nat}{zs:List Int}{b:Nat}{vs:List Value}{i:Nat}(h:Reads .i64 w a n zs)(hne:∀ x,a=some x→0<n→x.block≠b):Reads .i64 (setFrom b i vs w) a n zs :=
 ⟨h.len,h.max,h.wf,h.some_,fun x hx j hj=>by
  have hc:=h.cell x hx j hj
  rw[←hc]
  exact World.cell?_of_block (w:=w) (setFrom_other b _ (by rw[block_add];exact hne x hx (by omega)) vs i w)⟩
theorem own_type {w:World}{B e m:Nat}{b:Nat}{t:TypeId}{cs:Array Value}{a:Option Addr}{n c:Nat}{xs:List Value}(h:w.ownsRow B e 1 (.slice a n c) m xs)(k:Blk t w b cs)(ht:t≠e):∀ x,a=some x→x.block≠b:=by
 intro x hx hb
 subst hx
 rcases h.2 with h2|⟨g,cap,cur,hv,hg,hh,r⟩
 ·cases h2.1
 ·cases hv
  have:b=g:=hb.symm
  subst this
  have:=(show w.heap[b]? = _ from k).symm.trans hh
  simp only[Option.some.injEq,Obj.cells.injEq] at this
  exact ht this.2.1
theorem same_ints (a0:Option Addr)(n0 c0:Nat)(zs:List Int)(a1:Option Addr)(n1 c1:Nat)(w:World)
  (h0:Reads .i64 w a0 n0 zs) (h1:Reads .i64 w a1 n1 zs) :
  Calls Tryz.prog 14 #[.slice a0 n0 c0,.slice a1 n1 c1] w fun e w'=>e=.returned (.bool true)∧Below w.heap.size w w':=by
 suffices h:Calls Tryz.prog 14 #[.slice a0 n0 c0,.slice a1 n1 c1] w fun e w'=>e=.returned (.bool true)∧∃ m,w'=w.drewN m from h.mono fun e w' ⟨h1,h2⟩=>⟨h1,bDr (Below.refl _ _) h2⟩
 obtain rfl:n0=n1:=h0.len.symm.trans h1.len
 have hm:=h0.max
 go_enter Tryz.func14,Tryz.ntmps14
 go_wp2
 go_loopw [5] (fun i wr=>∃ k:Nat,k≤n0∧i=.int .i64 k∧∃ m,wr=w.drewN m) (fun i _=>n0-(intOf i).toNat)
 case atStart=>exact⟨0,Nat.zero_le _,rfl,0,rfl⟩
 case round =>
  obtain⟨k,hk,rfl,m,hw⟩:=hrel
  by_cases hlt:k<n0
  ·obtain⟨x,rfl⟩:=h0.some_ (by omega)
   obtain⟨y,rfl⟩:=h1.some_ (by omega)
   have cx:wr.cell? (x.add k)=some (.int .i64 (zs.getD k 0)):=by rw[hw];exact h0.cell x rfl k hlt
   have cy:wr.cell? (y.add k)=some (.int .i64 (zs.getD k 0)):=by rw[hw];exact h1.cell y rfl k hlt
   have Hw:Hid (wr=w.drewN m):=hw
   clear hw
   obtain⟨Z,eZ⟩:∃ Z,zs.getD k 0=Z:=⟨_,rfl⟩
   rw[eZ] at cx cy
   clear eZ
   go_wp2
   go_quiet (fail)
   go_wp2
   go_roundw
   case rel=>exact⟨k+1,by omega,by go_num,_,by rw[Hw.out,World.drewN_drewN]⟩
   case measure=>simp[intOf];omega
  ·have e:k=n0:=by omega
   subst e
   subst hw
   go_wp2
   go_ret
   exact⟨rfl,_,rfl⟩
theorem lit_reads (k:IntKind)(w:World)(zs:List Int)(e:TypeId)(hz:zs.length≤9223372036854775807)(hw:∀ z∈zs,(Lit.int k z).wf=true) :
  Reads k (w.alloc (.cells (zs.map (Value.int k)).toArray e)) (some ⟨w.heap.size,0,none⟩) zs.length zs :=
 oRa (World.ownsRow_lit (base:=w.heap.size) (size:=1) w (zs.map (Value.int k)).toArray zs.length (Nat.le_refl _) (by unfold maxLen;exact hz) (by simp)) rfl hw (fun j hj=>by simp[hj])
theorem lit1 (k:IntKind)(w:World)(e:TypeId)(g:Nat)(hg:g=w.heap.size)(a:Int)(ha:(Lit.int k a).wf=true):Reads k (w.alloc (.cells #[.int k a] e)) (some ⟨g,0,none⟩) 1 [a]:=by
 subst hg
 exact lit_reads k w [a] e (by simp) (by simp[ha])
end Go.Proofs.YtbkjhfmehemgpaaGreat

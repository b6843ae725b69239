/- Texts put together. -/
import Derived.Test.YtbkjhfmehemgpaaGreatRows
import Derived.Below
import Derived.BigQuiet
import Derived.Deep.QuietTactic
import Derived.Deep.RegionWith
import Derived.OpenShut
import Derived.ProofKit
import Derived.WalkKit
import Derived.WalkLawsBesides
import Derived.Deep.OwnRows
import Derived.Deep.RegionHeld3
import Derived.Deep.RegionLaw
import Derived.Laws.AppendOwnNone
import Derived.ArgAppend
import Derived.Defers
import Derived.Laws.Pointers
import Derived.Recover
namespace Go.Proofs.YtbkjhfmehemgpaaGreat
set_option maxRecDepth 20000
set_option maxHeartbeats 16000000
open Go.ChangeShapes Go.WideShapes Go.ChangeAt Go.RowKit
set_option linter.unusedVariables false
set_option linter.unusedSimpArgs false
structure Held (mb cb ln lc ne:Nat) (LA:Addr) (UA DA:Nat→Addr) (uc dc:Nat→Nat) (d v u x:Int) (W:World):Prop where
 c9:W.cell? ⟨mb,9,none⟩=some (.slice (some LA) ln lc)
 d0:W.cell? ⟨cb,0,none⟩=some (.int .i64 d)
 d3:W.cell? ⟨cb,3,none⟩=some (.int .i64 v)
 d4:W.cell? ⟨cb,4,none⟩=some (.int .i64 u)
 d5:W.cell? ⟨cb,5,none⟩=some (.int .i64 x)
 up:∀ i,i<ln→W.cell? ⟨(LA.add (i*9)).block,(LA.add (i*9)).off+7,none⟩=some (.slice (some (UA i)) ne (uc i))
 dn:∀ i,i<ln→W.cell? ⟨(LA.add (i*9)).block,(LA.add (i*9)).off+8,none⟩=some (.slice (some (DA i)) ne (dc i))
def offs (cnt:Nat→Nat):Nat→Nat
 | 0=>0
 | k+1=>offs cnt k+cnt k
theorem offs_mono (cnt : Nat → Nat) {i j : Nat} (h : i ≤ j) : offs cnt i ≤ offs cnt j := by
  induction j with
  | zero => obtain rfl : i = 0 := by omega
            exact Nat.le_refl _
  | succ j ih =>
    by_cases e : i = j + 1
    · subst e; exact Nat.le_refl _
    · have := ih (by omega)
      show _ ≤ offs cnt j + cnt j
      omega
theorem own_cap {w:World}{B:Nat}{e:TypeId}{a:Option Addr}{n c:Nat}{cs:List Value}(h:w.ownsRow B e 1 (.slice a n c) n cs):n≤c:=by
 rcases h.2 with⟨h,_⟩|⟨g,cap,cur,h,_,_,hn,_⟩
 ·simp only[Value.slice.injEq] at h
  omega
 ·simp only[Value.slice.injEq] at h
  omega
def ahead (xs:List Int)(i j:Nat):Bool:=decide (xs.getD j 0<xs.getD i 0∨(xs.getD i 0=xs.getD j 0∧i<j))
theorem ahead_iff (xs:List Int)(i j:Nat):ahead xs i j=true↔(xs.getD j 0<xs.getD i 0∨(xs.getD i 0=xs.getD j 0∧i<j)):=by
 unfold ahead
 exact decide_eq_true_iff
theorem ahead_not (xs:List Int)(i j:Nat):ahead xs i j=false↔¬(xs.getD j 0<xs.getD i 0∨(xs.getD i 0=xs.getD j 0∧i<j)):=by
 rw[←ahead_iff]
 simp
theorem ahead_irrefl (xs:List Int)(i:Nat):ahead xs i i=false:=by rw[ahead_not];omega
theorem ahead_asymm {xs:List Int}{i j:Nat}(h:ahead xs i j=true):ahead xs j i=false:=by rw[ahead_iff] at h;rw[ahead_not];omega
theorem ahead_trans {xs:List Int}{i j k:Nat}(h:ahead xs i j=true)(h':ahead xs j k=true):ahead xs i k=true:=by rw[ahead_iff] at *;omega
theorem ahead_ntrans {xs:List Int}{i j k:Nat}(h:ahead xs i j=false)(h':ahead xs j k=false):ahead xs i k=false:=by rw[ahead_not] at *;omega
theorem ahead_total {xs:List Int}{i j:Nat}(h:ahead xs i j=false)(h':ahead xs j i=false):i=j:=by rw[ahead_not] at *;omega
def rankTo (xs:List Int)(n i:Nat):Nat:=(List.range n).countP fun j=>ahead xs j i
def places (xs:List Int):List Nat:=(List.range xs.length).mergeSort fun i j=>!ahead xs j i
def Ordered (xs:List Int)(n:Nat)(L:List Nat):Prop:=L.Perm (List.range n)∧L.Pairwise fun i j=>ahead xs i j=true
theorem places_ordered (xs:List Int):Ordered xs xs.length (places xs):=by
 have hp:(places xs).Perm (List.range xs.length):=List.mergeSort_perm _ _
 refine⟨hp,?_⟩
 have hs:(places xs).Pairwise fun i j=>(!ahead xs j i)=true:=by
  unfold places
  refine List.pairwise_mergeSort (fun a b c h1 h2=>?_) (fun a b=>?_) _
  ·simp only[Bool.not_eq_true'] at *
   exact ahead_ntrans h2 h1
  ·cases h:ahead xs b a
   ·simp
   ·simp[ahead_asymm h]
 have hn:(places xs).Nodup:=hp.nodup_iff.2 List.nodup_range
 refine (hs.and hn).imp fun {i j} ⟨h1,h2⟩=>?_
 cases h:ahead xs i j
 ·simp only[Bool.not_eq_true'] at h1
  exact absurd (ahead_total h h1) h2
 ·rfl
theorem Ordered.length {xs:List Int}{n:Nat}{L:List Nat}(h:Ordered xs n L):L.length=n:=by rw[h.1.length_eq];simp
theorem Ordered.lt {xs:List Int}{n:Nat}{L:List Nat}(h:Ordered xs n L){m:Nat}(hm:m<n):L.getD m 0<n:=by
 have hl:=h.length
 have e:L.getD m 0=L[m]:=by simp[List.getD,hl,hm]
 rw[e]
 exact List.mem_range.1 (h.1.mem_iff.1 (List.getElem_mem _))
theorem Ordered.at {xs:List Int}{n:Nat}{L:List Nat}(h:Ordered xs n L){i:Nat}(hi:i<n):∃ m,m<n∧L.getD m 0=i:=by
 have hm:i∈L:=h.1.mem_iff.2 (List.mem_range.2 hi)
 obtain⟨m,hm,e⟩:=List.getElem_of_mem hm
 exact⟨m,by rw[←h.length];exact hm,by simp[List.getD,hm,e]⟩
theorem count_at (xs:List Int)(L:List Nat)(h:L.Pairwise fun i j=>ahead xs i j=true)(m:Nat)(hm:m<L.length):L.countP (fun j=>ahead xs j (L.getD m 0))=m:=by
 induction L generalizing m with
 | nil=>simp at hm
 | cons x L ih =>
  obtain⟨h1,h2⟩:=List.pairwise_cons.1 h
  cases m with
  | zero =>
   rw[List.countP_eq_zero]
   intro y hy
   rcases List.mem_cons.1 hy with e|e
   ·rw[e];simp[ahead_irrefl]
   ·simp[ahead_asymm (h1 y e)]
  | succ m =>
   have hm':m<L.length:=by simpa using hm
   have e:(x :: L).getD (m+1) 0=L.getD m 0:=by simp[List.getD]
   have e2:L.getD m 0∈L:=by
    have:L.getD m 0=L[m]:=by simp[List.getD,hm']
    rw[this]
    exact List.getElem_mem _
   rw[e,List.countP_cons_of_pos (p:=fun j=>ahead xs j (L.getD m 0)) (h1 _ e2),ih h2 m hm']
theorem Ordered.rank {xs:List Int}{n:Nat}{L:List Nat}(h:Ordered xs n L){m:Nat}(hm:m<n):rankTo xs n (L.getD m 0)=m:=by
 unfold rankTo
 rw[←h.1.countP_eq]
 exact count_at xs L h.2 m (by rw[h.length];exact hm)
theorem Ordered.rank_iff {xs:List Int}{n:Nat}{L:List Nat}(h:Ordered xs n L){i k:Nat}(hi:i<n)(hk:k<n):rankTo xs n i=k↔L.getD k 0=i:=by
 obtain⟨m,hm,e⟩:=h.at hi
 constructor
 ·intro hr
  rw[←e,h.rank hm] at hr
  rw[←hr,e]
 ·intro e'
  rw[←e']
  exact h.rank hk
theorem places_length (xs:List Int):(places xs).length=xs.length:=(places_ordered xs).length
def pickZ (xs:List Int)(k:Int):List Int:=((places xs).take k.toNat).map fun (i:Nat)=>(i:Int)
theorem topZ_at (xs:List Int)(k:Int)(j:Nat)(h:j<min k.toNat xs.length):(pickZ xs k).getD j 0=((places xs).getD j 0:Nat):=by
 have h1:j<k.toNat:=by omega
 have h2:j<(places xs).length:=by rw[places_length];omega
 simp[pickZ,List.getD,h1,h2]
def cfZ (xs:List Int)(i j:Nat):Int:=if xs.getD j 0<xs.getD i 0 then -1 else if xs.getD i 0<xs.getD j 0 then 1 else if i<j then -1 else if j<i then 1 else 0
theorem cfZ_neg (xs:List Int)(i j:Nat):decide (cfZ xs i j<0)=ahead xs i j:=by
 unfold cfZ ahead
 apply decide_eq_decide.2
 repeat' split
 all_goals omega
theorem fits_call (n d:Nat)(r:Int)(hn:n≤9223372036854775807)(hd:d≤9223372036854775807)(hr:(Lit.int .i64 r).wf=true)(w:World) :
  Calls Tryz.prog 191 #[.int .i64 n,.int .i64 r,.int .i64 d] w fun e w'=>e=.returned (.bool (decide (0<d∧n%d=0∧((n/d:Nat):Int)=r)))∧w'=w:=by
 by_cases d0:d=0
 ·subst d0
  have e:decide (0<0∧n%0=0∧((n/0:Nat):Int)=r)=false:=by simp
  rw[e]
  go_enter Tryz.func191,Tryz.ntmps191
  go_wp2
  go_ret
  exact⟨rfl,rfl⟩
 ·have hd0:0<(d:Int):=by omega
  have q0:0≤(n:Int)/(d:Int):=Int.ediv_nonneg (by omega) (by omega)
  have q1:(n:Int)/(d:Int)≤n:=Int.ediv_le_self _ (by omega)
  have eq:((n/d:Nat):Int)=(n:Int)/(d:Int):=Int.natCast_ediv n d
  have er:((n%d:Nat):Int)=(n:Int)%(d:Int):=Int.natCast_emod n d
  obtain⟨q,eq'⟩:∃ q,(n:Int)/(d:Int)=q:=⟨_,rfl⟩
  obtain⟨m,er'⟩:∃ m,(n:Int)%(d:Int)=m:=⟨_,rfl⟩
  have e:decide (0<d∧n%d=0∧((n/d:Nat):Int)=r)=(decide (m=0) && decide (q=r)):=by
   rw[eq,eq']
   rw[er'] at er
   have h1:(n%d=0)=(m=0):=propext ⟨fun h=>by omega,fun h=>by omega⟩
   have h2:(0<d)=True:=eq_true (by omega)
   simp only[h1,h2,true_and,Bool.decide_and]
  rw[e]
  rw[eq'] at q0 q1
  clear e eq er
  by_cases hm:m=0
  ·subst hm
   go_enter Tryz.func191,Tryz.ntmps191
   go_wp2
   go_ret
   exact⟨by rw[show (q==r)=decide (q=r) from rfl];simp,rfl⟩
  ·have hm':(m==0)=false:=by simp[hm]
   have hm2:decide (m=0)=false:=by simp[hm]
   rw[hm2]
   go_enter Tryz.func191,Tryz.ntmps191
   go_wp2
   go_ret
   exact⟨rfl,rfl⟩
def seeZ (p v:Int):Int:=if v<1 then 0 else if p<v then 0 else p-v+1
theorem visible_call (p v:Int)(hp:(Lit.int .i64 p).wf=true)(hv:(Lit.int .i64 v).wf=true)(w:World) :
  Calls Tryz.prog 109 #[.int .i64 p,.int .i64 v] w fun e w'=>e=.returned (.int .i64 (seeZ p v))∧w'=w:=by
 have bp:=bounds_i64 hp
 have bv:=bounds_i64 hv
 obtain⟨p0,p1⟩:=bp
 obtain⟨v0,v1⟩:=bv
 unfold seeZ
 by_cases h:v<1
 ·rw[if_pos h]
  go_enter Tryz.func109,Tryz.ntmps109
  go_wp2
  go_ret
  exact⟨rfl,rfl⟩
 ·rw[if_neg h]
  by_cases h':p<v
  ·rw[if_pos h']
   go_enter Tryz.func109,Tryz.ntmps109
   go_wp2
   go_ret
   exact⟨rfl,rfl⟩
  ·rw[if_neg h']
   go_enter Tryz.func109,Tryz.ntmps109
   go_wp2
   go_ret
   exact⟨rfl,rfl⟩
theorem run_load31 {w:World}{p:Addr}{a:Option Addr}{n c:Nat}(h:w.cell? p=some (.slice a n c)):(Instr.loadAt 31 (.pointer (some p))).run Tryz.prog w=.ok (.slice a n c) w:=by go_simp
theorem run_load3 {w:World}{p:Addr}{z:Int}(h:w.cell? p=some (.int .i64 z)):(Instr.loadAt 3 (.pointer (some p))).run Tryz.prog w=.ok (.int .i64 z) w:=by go_simp
theorem run_store70 {w:World}{p:Addr}{u:Value}{a:Option Addr}{n c:Nat}(h:w.cell? p=some u)(hf:w.frozen? p=false):(Instr.storeAt 70 (.pointer (some p)) (.slice a n c)).run Tryz.prog w=.ok () (w.setCell p (.slice a n c)):=by
 cases u<;>go_simp
theorem run_index23 (x:Addr)(n c k:Nat)(h:k<n)(w:World):(Instr.indexAt 59 (.slice (some x) n c) (.int .i64 (k:Int))).run Tryz.prog w=.ok (.pointer (some (x.add k))) w:=by
 have h':(k:Int)<(n:Int):=by omega
 go_simp
theorem run_index23z (x:Addr)(n c:Nat)(h:0<n)(w:World):(Instr.indexAt 59 (.slice (some x) n c) (.int .i64 0)).run Tryz.prog w=.ok (.pointer (some x)) w:=by
 have h':(0:Int)<(n:Int):=by omega
 go_simp
theorem run_index57l (b n c k:Nat)(h:k<n)(w:World):(Instr.indexAt 67 (.slice (some ⟨b,0,none⟩) n c) (.int .i64 (k:Int))).run Tryz.prog w=.ok (.pointer (some ⟨b,k,none⟩)) w:=by
 have h':(k:Int)<(n:Int):=by omega
 go_simp
theorem need_yes (n:Int)(w:World):Calls Tryz.prog 226 #[.bool true,.int .i64 n] w fun e w'=>e=.returned (.tuple #[])∧w'=w:=by
 have hnot:∀ (x:Bool) (w:World),(Op.unary .not (.bool x)).run Tryz.prog w=.ok (.bool (!x)) w:=fun _ _=>rfl
 go_enter Tryz.func226,Tryz.ntmps226
 go_wp2
 go_end0
 exact⟨rfl,rfl⟩
theorem must_yes (a:Option Addr)(n c:Nat)(w:World):Calls Tryz.prog 239 #[.slice a n c,.int .i64 0] w fun e w'=>e=.returned (.slice a n c)∧w'=w:=by
 have kn:=need_yes 0
 go_enter Tryz.func239,Tryz.ntmps239
 go_wp2_with (go_at_call 226;refine (kn _).mono ?_;rintro e w' ⟨rfl,rfl⟩)
 go_ret
 exact⟨rfl,rfl⟩
theorem caught_nil (w:World):Calls Tryz.prog 207 #[.nilIface] w fun e w'=>e=.returned (.int .i64 0)∧w'=w:=by
 go_enter Tryz.func207,Tryz.ntmps207
 go_wp2
 go_ret
 exact⟨rfl,rfl⟩
theorem eNo {P : Program} {f : FuncId} {fn : Func} {c : Code} (hf : P.funcs[f]? = some fn) (hname : (fn.name == "runtime.NumGoroutine") = false) (hb : fn.body = some c) (args : Array Value) (w : World) :
  (callFunc f args).run P w=.ok (.enter f args) w:=by
 have h1 : fn.name ≠ "runtime.NumGoroutine" := by simpa using hname
 simp[callFunc,hf,h1,hb]
theorem catch_idle21 (p:Addr)(x:Int)(w:World)(hc:w.cell? p=some (.int .i64 x))(hz:w.frozen? p=false) :
  CallsD Tryz.prog 206 #[.pointer (some p)] .returning w fun e u' w'=>e=.returned (.tuple #[])∧u'=.returning∧w'=w.setCell p (.int .i64 0):=by
 refine callsD_of_wpS Tryz.func206 rfl fun c₀ cs hu=>?_
 have r22:∀ args w,(callFunc 207 args).run Tryz.prog w=.ok (.enter 207 args) w:=eNo Tryz.func207 (by kernel_rfl) rfl
 apply wpS_region
 simp[wpOpsS,go_sem,recoverD,hu,Tryz.ntmps206,Exit.thenS,r22,Oper.upon]
 refine (caught_nil w).mono ?_
 rintro e w' ⟨rfl,rfl⟩
 cases c₀
 simp_all [wpOpsS,go_sem,hc,hz,bodyPostS,results,Tryz.results206,Oper.upon]
theorem sSa {w:World}{b i:Nat}{v:Value}(h:w.cell? ⟨b,i,none⟩=some v):w.setCell ⟨b,i,none⟩ v=w:=by
 unfold World.cell? at h
 split at h
 ·rename_i c e f hb
  have hc:c[i]? = some v:=by simpa using h
  obtain⟨hlt,hv⟩:=Array.getElem?_eq_some_iff.1 hc
  have hh:w.heap.modify b (fun|.cells c elem frozen=>.cells (c.setIfInBounds i v) elem frozen|o=>o)=w.heap:=by
   apply Array.ext_getElem?
   intro k
   rw[Array.getElem?_modify]
   by_cases e:b=k
   ·subst e
    simp only[if_true,hb,Option.map_some]
    congr 2
    apply Array.ext_getElem?
    intro m
    rw[Array.getElem?_setIfInBounds]
    by_cases e:i=m
    ·subst e
     simp[hlt,hv]
    ·rw[if_neg e]
   ·rw[if_neg e]
  show ({ w with heap:=w.heap.modify b (fun|.cells c elem frozen=>.cells (c.setIfInBounds i v) elem frozen|o=>o) }:World)=w
  rw[hh]
 ·cases h
theorem below_cell {w w':World}{p:Addr}{v:Value}(hb:Below w.heap.size w w')(h:w.cell? p=some v):w'.cell? p=some v:=(hb.cell (World.block_lt_of_cell? w p h)).trans h
def maxZ (xs:List Int):Int:=if xs.length=0 then -1 else ((places xs).getD 0 0:Nat)
theorem Ordered.first {xs:List Int}{n:Nat}{L:List Nat}(h:Ordered xs n L){i:Nat}(hi:i<n)(hn:∀ j,j<n→ahead xs j i=false):L.getD 0 0=i:=by
 refine (h.rank_iff hi (by omega)).1 ?_
 unfold rankTo
 rw[List.countP_eq_zero]
 intro j hj
 simp[hn j (List.mem_range.1 hj)]
end Go.Proofs.YtbkjhfmehemgpaaGreat

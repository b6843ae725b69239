/- Texts put together. -/
import Derived.Test.YthliomlmhfjhnaaGreatRows
import Derived.Test.YthliomlmhfjhnaaGreatZpA
import Derived.Below
import Derived.BigQuiet
import Derived.Deep.OwnRows
import Derived.Deep.QuietTactic
import Derived.Deep.RegionHeld3
import Derived.Deep.RegionLaw
import Derived.Deep.RegionWith
import Derived.Laws.AppendOwnNone
import Derived.OpenShut
import Derived.ProofKit
import Derived.WalkKit
import Derived.WalkLawsBesides
import Derived.Defers
import Derived.Laws.Pointers
import Derived.Recover
import Derived.ArgAppend
import Derived.Orders
namespace Go.Proofs.YthliomlmhfjhnaaGreat
set_option maxRecDepth 20000
set_option maxHeartbeats 16000000
open Go.ChangeShapes Go.WideShapes Go.ChangeAt Go.RowKit
set_option linter.unusedVariables false
set_option linter.unusedSimpArgs false
def offs (cnt:Nat→Nat):Nat→Nat
 | 0=>0
 | k+1=>offs cnt k+cnt k
theorem QeN (cnt : Nat → Nat) {i j : Nat} (h : i ≤ j) : offs cnt i ≤ offs cnt j := by
  induction j with
  | zero => obtain rfl : i = 0 := by omega
            exact Nat.le_refl _
  | succ j ih =>
    by_cases e : i = j + 1
    · subst e; exact Nat.le_refl _
    · have := ih (by omega)
      show _ ≤ offs cnt j + cnt j
      omega
theorem Qag {w:World}{p:Addr}{a:Option Addr}{n c:Nat}(h:w.cell? p=some (.slice a n c)):(Instr.loadAt 24 (.pointer (some p))).run Tryz.prog w=.ok (.slice a n c) w:=by go_simp
theorem Qeu {w:World}{p:Addr}{z:Int}(h:w.cell? p=some (I4 z)):(Instr.loadAt 2 (.pointer (some p))).run Tryz.prog w=.ok (I4 z) w:=by go_simp
theorem Qam {w:World}{p:Addr}{z:Int}(h:w.cell? p=some (I4 z)):(Instr.loadAt 3 (.pointer (some p))).run Tryz.prog w=.ok (I4 z) w:=by go_simp
theorem QhH {w:World}{p:Addr}{u:Value}{a:Option Addr}{n c:Nat}(h:w.cell? p=some u)(hf:w.frozen? p=false):(Instr.storeAt 34 (.pointer (some p)) (.slice a n c)).run Tryz.prog w=.ok () (w.setCell p (.slice a n c)):=by
 cases u<;>go_simp
theorem Qi8 {w:World}{p:Addr}{u:Value}{z:Int}(h:w.cell? p=some u)(hf:w.frozen? p=false):(Instr.storeAt 2 (.pointer (some p)) (I4 z)).run Tryz.prog w=.ok () (w.setCell p (I4 z)):=by
 cases u<;>go_simp
theorem Qb1 (x:Addr)(n c k:Nat)(h:k<n)(w:World):(Instr.indexAt 63 (.slice (some x) n c) (I4 (k:Int))).run Tryz.prog w=.ok (.pointer (some (x.add k))) w:=by
 have h':(k:Int)<(n:Int):=by omega
 go_simp
theorem QbG (x:Addr)(n c:Nat)(h:0<n)(w:World):(Instr.indexAt 63 (.slice (some x) n c) (I4 0)).run Tryz.prog w=.ok (.pointer (some x)) w:=by
 have h':(0:Int)<(n:Int):=by omega
 go_simp
theorem Qgr (b n c k:Nat)(h:k<n)(w:World):(Instr.indexAt 31 (.slice (some ⟨b,0,none⟩) n c) (I4 (k:Int))).run Tryz.prog w=.ok (.pointer (some ⟨b,k,none⟩)) w:=by
 have h':(k:Int)<(n:Int):=by omega
 go_simp
theorem Qev (x:Addr)(n c k:Nat)(h:k<n)(w:World):(Instr.indexAt 34 (.slice (some x) n c) (I4 (k:Int))).run Tryz.prog w=.ok (.pointer (some (x.add k))) w:=by
 have h':(k:Int)<(n:Int):=by omega
 go_simp
theorem QdM (b n c k:Nat)(h:k<n)(w:World):(Instr.indexAt 34 (.slice (some ⟨b,0,none⟩) n c) (I4 (k:Int))).run Tryz.prog w=.ok (.pointer (some ⟨b,k,none⟩)) w:=by
 have h':(k:Int)<(n:Int):=by omega
 go_simp
theorem Qbt (x:Addr)(n c k:Nat)(h:k<n)(w:World):(Instr.indexAt 45 (.slice (some x) n c) (I4 (k:Int))).run Tryz.prog w=.ok (.pointer (some (x.add k))) w:=by
 have h':(k:Int)<(n:Int):=by omega
 go_simp
section
theorem Qin {p:Addr}(f:Nat)(hf:f<4)(w:World):(Instr.fieldAt 61 (.pointer (some p)) f).run Tryz.prog w=.ok (.pointer (some (p.add f))) w:=by
 rcases l4 (show f<4 by omega) with rfl|rfl|rfl|rfl<;>go_simp
variable {N:Nat}{D:Nat→Option Nat}{a0:Act}{R:(Nat→Bool)→Act→World→Prop}{F:(Nat→Bool)→Nat→Value→World→Prop}{l:Nat→Bool}{a:Act}{w:World}
end
theorem Qea (n:Int)(w:World):Calls Tryz.prog 137 #[.bool true,I4 n] w fun e w'=>e=.returned (.tuple #[])∧w'=w:=by
 have hnot:∀ (x:Bool) (w:World),(Op.unary .not (.bool x)).run Tryz.prog w=.ok (.bool (!x)) w:=fun _ _=>rfl
 go_enter Tryz.func137,Tryz.ntmps137
 go_wp2
 go_end0
 exact⟨rfl,rfl⟩
theorem QfX (a:Option Addr)(n c:Nat)(w:World):Calls Tryz.prog 151 #[.slice a n c,I4 0] w fun e w'=>e=.returned (.slice a n c)∧w'=w:=by
 have kn:=Qea 0
 go_enter Tryz.func151,Tryz.ntmps151
 go_wp2_with (go_at_call 137;refine (kn _).mono ?_;rintro e w' ⟨rfl,rfl⟩)
 go_ret
 exact⟨rfl,rfl⟩
theorem QjO (w:World):Calls Tryz.prog 122 #[.nilIface] w fun e w'=>e=.returned (I4 0)∧w'=w:=by
 go_enter Tryz.func122,Tryz.ntmps122
 go_wp2
 go_ret
 exact⟨rfl,rfl⟩
theorem eNo {P : Program} {f : FuncId} {fn : Func} {c : Code} (hf : P.funcs[f]? = some fn) (hname : (fn.name == "runtime.NumGoroutine") = false) (hb : fn.body = some c) (args : Array Value) (w : World) :
  (callFunc f args).run P w=.ok (.enter f args) w:=by
 have h1 : fn.name ≠ "runtime.NumGoroutine" := by simpa using hname
 simp[callFunc,hf,h1,hb]
theorem Qhk (p:Addr)(x:Int)(w:World)(hc:w.cell? p=some (I4 x))(hz:w.frozen? p=false) :
  CallsD Tryz.prog 121 #[.pointer (some p)] .returning w fun e u' w'=>e=.returned (.tuple #[])∧u'=.returning∧w'=w.setCell p (I4 0):=by
 refine callsD_of_wpS Tryz.func121 rfl fun c₀ cs hu=>?_
 have r22:∀ args w,(callFunc 122 args).run Tryz.prog w=.ok (.enter 122 args) w:=eNo Tryz.func122 (by kernel_rfl) rfl
 apply wpS_region
 simp[wpOpsS,go_sem,recoverD,hu,Tryz.ntmps121,Exit.thenS,r22,Oper.upon]
 refine (QjO w).mono ?_
 rintro e w' ⟨rfl,rfl⟩
 cases c₀
 simp_all [wpOpsS,go_sem,hc,hz,bodyPostS,results,Tryz.results121,Oper.upon]
theorem sSa {w:World}{b i:Nat}{v:Value}(h:w.cell? ⟨b,i,none⟩=some v):w.setCell ⟨b,i,none⟩ v=w:=by
 unfold World.cell? at h
 split at h
 ·rename_i c e f hb
  have hc:c[i]? = some v:=by simpa using h
  obtain⟨hlt,hv⟩:=Array.getElem?_eq_some_iff.1 hc
  have hh:w.heap.modify b (fun|.cells c elem frozen=>.cells (c.setIfInBounds i v) elem frozen|o=>o)=w.heap:=by
   apply Array.ext_getElem?
   intro k
   rw[Array.getElem?_modify]
   by_cases e:b=k
   ·subst e
    simp only[if_true,hb,Option.map_some]
    congr 2
    apply Array.ext_getElem?
    intro m
    rw[Array.getElem?_setIfInBounds]
    by_cases e:i=m
    ·subst e
     simp[hlt,hv]
    ·rw[if_neg e]
   ·rw[if_neg e]
  show ({ w with heap:=w.heap.modify b (fun|.cells c elem frozen=>.cells (c.setIfInBounds i v) elem frozen|o=>o) }:World)=w
  rw[hh]
 ·cases h
def ahead (xs:List Int)(i j:Nat):Bool:=decide (xs.getD j 0<xs.getD i 0∨(xs.getD i 0=xs.getD j 0∧i<j))
theorem QbZ (xs:List Int)(i j:Nat):ahead xs i j=true↔(xs.getD j 0<xs.getD i 0∨(xs.getD i 0=xs.getD j 0∧i<j)):=by
 unfold ahead
 exact decide_eq_true_iff
theorem Qdm (xs:List Int)(i j:Nat):ahead xs i j=false↔¬(xs.getD j 0<xs.getD i 0∨(xs.getD i 0=xs.getD j 0∧i<j)):=by
 rw[←QbZ]
 simp
theorem Qd0 (xs:List Int)(i:Nat):ahead xs i i=false:=by rw[Qdm];omega
theorem Qe5 {xs:List Int}{i j:Nat}(h:ahead xs i j=true):ahead xs j i=false:=by rw[QbZ] at h;rw[Qdm];omega
theorem QiB {xs:List Int}{i j k:Nat}(h:ahead xs i j=true)(h':ahead xs j k=true):ahead xs i k=true:=by rw[QbZ] at *;omega
theorem QdZ {xs:List Int}{i j k:Nat}(h:ahead xs i j=false)(h':ahead xs j k=false):ahead xs i k=false:=by rw[Qdm] at *;omega
theorem Qe4 {xs:List Int}{i j:Nat}(h:ahead xs i j=false)(h':ahead xs j i=false):i=j:=by rw[Qdm] at *;omega
def rankTo (xs:List Int)(n i:Nat):Nat:=(List.range n).countP fun j=>ahead xs j i
theorem Qib (xs:List Int)(n i:Nat):rankTo xs (n+1) i=rankTo xs n i+(if ahead xs n i=true then 1 else 0):=by
 unfold rankTo
 rw[List.range_succ,List.countP_append]
 congr 1
 simp[List.countP_cons]
theorem QgR (xs:List Int)(n i:Nat):rankTo xs n i≤n:=by
 unfold rankTo
 have:=List.countP_le_length (p:=fun j=>ahead xs j i) (l:=List.range n)
 simpa using this
def QaX (xs:List Int):List Nat:=(List.range xs.length).mergeSort fun i j=>!ahead xs j i
def QbD (xs:List Int)(n:Nat)(L:List Nat):Prop:=L.Perm (List.range n)∧L.Pairwise fun i j=>ahead xs i j=true
theorem Qbc (xs:List Int):QbD xs xs.length (QaX xs):=by
 have hp:(QaX xs).Perm (List.range xs.length):=List.mergeSort_perm _ _
 refine⟨hp,?_⟩
 have hs:(QaX xs).Pairwise fun i j=>(!ahead xs j i)=true:=by
  unfold QaX
  refine List.pairwise_mergeSort (fun a b c h1 h2=>?_) (fun a b=>?_) _
  ·simp only[Bool.not_eq_true'] at *
   exact QdZ h2 h1
  ·cases h:ahead xs b a
   ·simp
   ·simp[Qe5 h]
 have hn:(QaX xs).Nodup:=hp.nodup_iff.2 List.nodup_range
 refine (hs.and hn).imp fun {i j} ⟨h1,h2⟩=>?_
 cases h:ahead xs i j
 ·simp only[Bool.not_eq_true'] at h1
  exact absurd (Qe4 h h1) h2
 ·rfl
theorem QbD.length {xs:List Int}{n:Nat}{L:List Nat}(h:QbD xs n L):L.length=n:=by rw[h.1.length_eq];simp
theorem QbD.lt {xs:List Int}{n:Nat}{L:List Nat}(h:QbD xs n L){m:Nat}(hm:m<n):L.getD m 0<n:=by
 have hl:=h.length
 have e:L.getD m 0=L[m]:=by simp[List.getD,hl,hm]
 rw[e]
 exact List.mem_range.1 (h.1.mem_iff.1 (List.getElem_mem _))
theorem QbD.at {xs:List Int}{n:Nat}{L:List Nat}(h:QbD xs n L){i:Nat}(hi:i<n):∃ m,m<n∧L.getD m 0=i:=by
 have hm:i∈L:=h.1.mem_iff.2 (List.mem_range.2 hi)
 obtain⟨m,hm,e⟩:=List.getElem_of_mem hm
 exact⟨m,by rw[←h.length];exact hm,by simp[List.getD,hm,e]⟩
theorem Qmz (xs:List Int)(L:List Nat)(h:L.Pairwise fun i j=>ahead xs i j=true)(m:Nat)(hm:m<L.length):L.countP (fun j=>ahead xs j (L.getD m 0))=m:=by
 induction L generalizing m with
 | nil=>simp at hm
 | cons x L ih =>
  obtain⟨h1,h2⟩:=List.pairwise_cons.1 h
  cases m with
  | zero =>
   rw[List.countP_eq_zero]
   intro y hy
   rcases List.mem_cons.1 hy with e|e
   ·rw[e];simp[Qd0]
   ·simp[Qe5 (h1 y e)]
  | succ m =>
   have hm':m<L.length:=by simpa using hm
   have e:(x :: L).getD (m+1) 0=L.getD m 0:=by simp[List.getD]
   have e2:L.getD m 0∈L:=by
    have:L.getD m 0=L[m]:=by simp[List.getD,hm']
    rw[this]
    exact List.getElem_mem _
   rw[e,List.countP_cons_of_pos (p:=fun j=>ahead xs j (L.getD m 0)) (h1 _ e2),ih h2 m hm']
theorem QbD.rank {xs:List Int}{n:Nat}{L:List Nat}(h:QbD xs n L){m:Nat}(hm:m<n):rankTo xs n (L.getD m 0)=m:=by
 unfold rankTo
 rw[←h.1.countP_eq]
 exact Qmz xs L h.2 m (by rw[h.length];exact hm)
theorem QbD.rank_iff {xs:List Int}{n:Nat}{L:List Nat}(h:QbD xs n L){i k:Nat}(hi:i<n)(hk:k<n):rankTo xs n i=k↔L.getD k 0=i:=by
 obtain⟨m,hm,e⟩:=h.at hi
 constructor
 ·intro hr
  rw[←e,h.rank hm] at hr
  rw[←hr,e]
 ·intro e'
  rw[←e']
  exact h.rank hk
theorem Qbm (xs:List Int):(QaX xs).length=xs.length:=(Qbc xs).length
def Qcf (xs:List Int)(k:Int):List Int:=((QaX xs).take k.toNat).map fun (i:Nat)=>(i:Int)
theorem Qhs (xs:List Int)(k:Int):(Qcf xs k).length=min k.toNat xs.length:=by simp[Qcf,Qbm]
theorem Qkh (xs:List Int)(k:Int)(j:Nat)(h:j<min k.toNat xs.length):(Qcf xs k).getD j 0=((QaX xs).getD j 0:Nat):=by
 have h1:j<k.toNat:=by omega
 have h2:j<(QaX xs).length:=by rw[Qbm];omega
 simp[Qcf,List.getD,h1,h2]
def cfZ (xs:List Int)(i j:Nat):Int:=if xs.getD j 0<xs.getD i 0 then -1 else if xs.getD i 0<xs.getD j 0 then 1 else if i<j then -1 else if j<i then 1 else 0
theorem Qnx (xs:List Int)(i j:Nat):decide (cfZ xs i j<0)=ahead xs i j:=by
 unfold cfZ ahead
 apply decide_eq_decide.2
 repeat' split
 all_goals omega
theorem Qha (n d:Nat)(r:Int)(hn:n≤9223372036854775807)(hd:d≤9223372036854775807)(hr:(Lit.int .i64 r).wf=true)(w:World) :
  Calls Tryz.prog 87 #[I4 n,I4 r,I4 d] w fun e w'=>e=.returned (.bool (decide (0<d∧n%d=0∧((n/d:Nat):Int)=r)))∧w'=w:=by
 by_cases d0:d=0
 ·subst d0
  have e:decide (0<0∧n%0=0∧((n/0:Nat):Int)=r)=false:=by simp
  rw[e]
  go_enter Tryz.func87,Tryz.ntmps87
  go_wp2
  go_ret
  exact⟨rfl,rfl⟩
 ·have hd0:0<(d:Int):=by omega
  have q0:0≤(n:Int)/(d:Int):=Int.ediv_nonneg (by omega) (by omega)
  have q1:(n:Int)/(d:Int)≤n:=Int.ediv_le_self _ (by omega)
  have eq:((n/d:Nat):Int)=(n:Int)/(d:Int):=Int.natCast_ediv n d
  have er:((n%d:Nat):Int)=(n:Int)%(d:Int):=Int.natCast_emod n d
  obtain⟨q,eq'⟩:∃ q,(n:Int)/(d:Int)=q:=⟨_,rfl⟩
  obtain⟨m,er'⟩:∃ m,(n:Int)%(d:Int)=m:=⟨_,rfl⟩
  have e:decide (0<d∧n%d=0∧((n/d:Nat):Int)=r)=(decide (m=0) && decide (q=r)):=by
   rw[eq,eq']
   rw[er'] at er
   have h1:(n%d=0)=(m=0):=propext ⟨fun h=>by omega,fun h=>by omega⟩
   have h2:(0<d)=True:=eq_true (by omega)
   simp only[h1,h2,true_and,Bool.decide_and]
  rw[e]
  rw[eq'] at q0 q1
  clear e eq er
  by_cases hm:m=0
  ·subst hm
   go_enter Tryz.func87,Tryz.ntmps87
   go_wp2
   go_ret
   exact⟨by rw[show (q==r)=decide (q=r) from rfl];simp,rfl⟩
  ·have hm':(m==0)=false:=by simp[hm]
   have hm2:decide (m=0)=false:=by simp[hm]
   rw[hm2]
   go_enter Tryz.func87,Tryz.ntmps87
   go_wp2
   go_ret
   exact⟨rfl,rfl⟩
end Go.Proofs.YthliomlmhfjhnaaGreat

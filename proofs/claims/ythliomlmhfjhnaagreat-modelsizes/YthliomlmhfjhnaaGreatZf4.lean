/- Texts put together. -/
import Derived.Test.YthliomlmhfjhnaaGreatRows
import Derived.Below
import Derived.BigQuiet
import Derived.Deep.QuietTactic
import Derived.OpenShut
import Derived.ProofKit
import Derived.WalkKit
import Derived.Deep.OwnRows
import Derived.Deep.RegionHeld3
import Derived.Deep.RegionLaw
import Derived.Deep.RegionWith
import Derived.Laws.AppendOwnNone
import Derived.WalkLawsBesides
import Derived.Defers
import Derived.Laws.Pointers
import Derived.Recover
import Derived.ArgAppend
import Derived.Orders
namespace Go.Proofs.YthliomlmhfjhnaaGreat
set_option maxRecDepth 20000
set_option maxHeartbeats 16000000
open Go.ChangeShapes Go.WideShapes Go.ChangeAt Go.RowKit
set_option linter.unusedVariables false
set_option linter.unusedSimpArgs false
section
theorem info73:(Tryz.prog.info? 73).map (fun i=>(i.zero,i.size,i.bytes))=some (some (.int .i8 0),1,1):=by kernel_rfl
end
section
def offs (cnt:Nat→Nat):Nat→Nat
 | 0=>0
 | k+1=>offs cnt k+cnt k
theorem offs_mono (cnt : Nat → Nat) {i j : Nat} (h : i ≤ j) : offs cnt i ≤ offs cnt j := by
  induction j with
  | zero => obtain rfl : i = 0 := by omega
            exact Nat.le_refl _
  | succ j ih =>
    by_cases e : i = j + 1
    · subst e; exact Nat.le_refl _
    · have := ih (by omega)
      show _ ≤ offs cnt j + cnt j
      omega
end
section
theorem run_load24 {w:World}{p:Addr}{a:Option Addr}{n c:Nat}(h:w.cell? p=some (.slice a n c)):(Instr.loadAt 24 (.pointer (some p))).run Tryz.prog w=.ok (.slice a n c) w:=by go_simp
theorem run_load3 {w:World}{p:Addr}{z:Int}(h:w.cell? p=some (.int .i64 z)):(Instr.loadAt 3 (.pointer (some p))).run Tryz.prog w=.ok (.int .i64 z) w:=by go_simp
theorem run_store34 {w:World}{p:Addr}{u:Value}{a:Option Addr}{n c:Nat}(h:w.cell? p=some u)(hf:w.frozen? p=false):(Instr.storeAt 34 (.pointer (some p)) (.slice a n c)).run Tryz.prog w=.ok () (w.setCell p (.slice a n c)):=by
 cases u<;>go_simp
theorem run_index23 (x:Addr)(n c k:Nat)(h:k<n)(w:World):(Instr.indexAt 63 (.slice (some x) n c) (.int .i64 (k:Int))).run Tryz.prog w=.ok (.pointer (some (x.add k))) w:=by
 have h':(k:Int)<(n:Int):=by omega
 go_simp
theorem run_index23z (x:Addr)(n c:Nat)(h:0<n)(w:World):(Instr.indexAt 63 (.slice (some x) n c) (.int .i64 0)).run Tryz.prog w=.ok (.pointer (some x)) w:=by
 have h':(0:Int)<(n:Int):=by omega
 go_simp
theorem run_index57l (b n c k:Nat)(h:k<n)(w:World):(Instr.indexAt 31 (.slice (some ⟨b,0,none⟩) n c) (.int .i64 (k:Int))).run Tryz.prog w=.ok (.pointer (some ⟨b,k,none⟩)) w:=by
 have h':(k:Int)<(n:Int):=by omega
 go_simp
end
section
def ahead (xs:List Int)(i j:Nat):Bool:=decide (xs.getD j 0<xs.getD i 0∨(xs.getD i 0=xs.getD j 0∧i<j))
theorem ahead_iff (xs:List Int)(i j:Nat):ahead xs i j=true↔(xs.getD j 0<xs.getD i 0∨(xs.getD i 0=xs.getD j 0∧i<j)):=by
 unfold ahead
 exact decide_eq_true_iff
theorem ahead_not (xs:List Int)(i j:Nat):ahead xs i j=false↔¬(xs.getD j 0<xs.getD i 0∨(xs.getD i 0=xs.getD j 0∧i<j)):=by
 rw[←ahead_iff]
 simp
theorem ahead_irrefl (xs:List Int)(i:Nat):ahead xs i i=false:=by rw[ahead_not];omega
theorem ahead_asymm {xs:List Int}{i j:Nat}(h:ahead xs i j=true):ahead xs j i=false:=by rw[ahead_iff] at h;rw[ahead_not];omega
theorem ahead_trans {xs:List Int}{i j k:Nat}(h:ahead xs i j=true)(h':ahead xs j k=true):ahead xs i k=true:=by rw[ahead_iff] at *;omega
theorem ahead_ntrans {xs:List Int}{i j k:Nat}(h:ahead xs i j=false)(h':ahead xs j k=false):ahead xs i k=false:=by rw[ahead_not] at *;omega
theorem ahead_total {xs:List Int}{i j:Nat}(h:ahead xs i j=false)(h':ahead xs j i=false):i=j:=by rw[ahead_not] at *;omega
def places (xs:List Int):List Nat:=(List.range xs.length).mergeSort fun i j=>!ahead xs j i
def Ordered (xs:List Int)(n:Nat)(L:List Nat):Prop:=L.Perm (List.range n)∧L.Pairwise fun i j=>ahead xs i j=true
theorem places_ordered (xs:List Int):Ordered xs xs.length (places xs):=by
 have hp:(places xs).Perm (List.range xs.length):=List.mergeSort_perm _ _
 refine⟨hp,?_⟩
 have hs:(places xs).Pairwise fun i j=>(!ahead xs j i)=true:=by
  unfold places
  refine List.pairwise_mergeSort (fun a b c h1 h2=>?_) (fun a b=>?_) _
  ·simp only[Bool.not_eq_true'] at *
   exact ahead_ntrans h2 h1
  ·cases h:ahead xs b a
   ·simp
   ·simp[ahead_asymm h]
 have hn:(places xs).Nodup:=hp.nodup_iff.2 List.nodup_range
 refine (hs.and hn).imp fun {i j} ⟨h1,h2⟩=>?_
 cases h:ahead xs i j
 ·simp only[Bool.not_eq_true'] at h1
  exact absurd (ahead_total h h1) h2
 ·rfl
theorem Ordered.length {xs:List Int}{n:Nat}{L:List Nat}(h:Ordered xs n L):L.length=n:=by rw[h.1.length_eq];simp
theorem Ordered.lt {xs:List Int}{n:Nat}{L:List Nat}(h:Ordered xs n L){m:Nat}(hm:m<n):L.getD m 0<n:=by
 have hl:=h.length
 have e:L.getD m 0=L[m]:=by simp[List.getD,hl,hm]
 rw[e]
 exact List.mem_range.1 (h.1.mem_iff.1 (List.getElem_mem _))
theorem places_length (xs:List Int):(places xs).length=xs.length:=(places_ordered xs).length
def pickZ (xs:List Int)(k:Int):List Int:=((places xs).take k.toNat).map fun (i:Nat)=>(i:Int)
theorem topZ_at (xs:List Int)(k:Int)(j:Nat)(h:j<min k.toNat xs.length):(pickZ xs k).getD j 0=((places xs).getD j 0:Nat):=by
 have h1:j<k.toNat:=by omega
 have h2:j<(places xs).length:=by rw[places_length];omega
 simp[pickZ,List.getD,h1,h2]
def cfZ (xs:List Int)(i j:Nat):Int:=if xs.getD j 0<xs.getD i 0 then -1 else if xs.getD i 0<xs.getD j 0 then 1 else if i<j then -1 else if j<i then 1 else 0
theorem cfZ_neg (xs:List Int)(i j:Nat):decide (cfZ xs i j<0)=ahead xs i j:=by
 unfold cfZ ahead
 apply decide_eq_decide.2
 repeat' split
 all_goals omega
end
section
theorem fits_call (n d:Nat)(r:Int)(hn:n≤9223372036854775807)(hd:d≤9223372036854775807)(hr:(Lit.int .i64 r).wf=true)(w:World) :
  Calls Tryz.prog 87 #[.int .i64 n,.int .i64 r,.int .i64 d] w fun e w'=>e=.returned (.bool (decide (0<d∧n%d=0∧((n/d:Nat):Int)=r)))∧w'=w:=by
 by_cases d0:d=0
 ·subst d0
  have e:decide (0<0∧n%0=0∧((n/0:Nat):Int)=r)=false:=by simp
  rw[e]
  go_enter Tryz.func87,Tryz.ntmps87
  go_wp2
  go_ret
  exact⟨rfl,rfl⟩
 ·have hd0:0<(d:Int):=by omega
  have q0:0≤(n:Int)/(d:Int):=Int.ediv_nonneg (by omega) (by omega)
  have q1:(n:Int)/(d:Int)≤n:=Int.ediv_le_self _ (by omega)
  have eq:((n/d:Nat):Int)=(n:Int)/(d:Int):=Int.natCast_ediv n d
  have er:((n%d:Nat):Int)=(n:Int)%(d:Int):=Int.natCast_emod n d
  obtain⟨q,eq'⟩:∃ q,(n:Int)/(d:Int)=q:=⟨_,rfl⟩
  obtain⟨m,er'⟩:∃ m,(n:Int)%(d:Int)=m:=⟨_,rfl⟩
  have e:decide (0<d∧n%d=0∧((n/d:Nat):Int)=r)=(decide (m=0) && decide (q=r)):=by
   rw[eq,eq']
   rw[er'] at er
   have h1:(n%d=0)=(m=0):=propext ⟨fun h=>by omega,fun h=>by omega⟩
   have h2:(0<d)=True:=eq_true (by omega)
   simp only[h1,h2,true_and,Bool.decide_and]
  rw[e]
  rw[eq'] at q0 q1
  clear e eq er
  by_cases hm:m=0
  ·subst hm
   go_enter Tryz.func87,Tryz.ntmps87
   go_wp2
   go_ret
   exact⟨by rw[show (q==r)=decide (q=r) from rfl];simp,rfl⟩
  ·have hm':(m==0)=false:=by simp[hm]
   have hm2:decide (m=0)=false:=by simp[hm]
   rw[hm2]
   go_enter Tryz.func87,Tryz.ntmps87
   go_wp2
   go_ret
   exact⟨rfl,rfl⟩
end
section
theorem own_cap {w:World}{B:Nat}{e:TypeId}{a:Option Addr}{n c:Nat}{cs:List Value}(h:w.ownsRow B e 1 (.slice a n c) n cs):n≤c:=by
 rcases h.2 with⟨h,_⟩|⟨g,cap,cur,h,_,_,hn,_⟩
 ·simp only[Value.slice.injEq] at h
  omega
 ·simp only[Value.slice.injEq] at h
  omega
end
section
def seeZ (p v:Int):Int:=if v<1 then 0 else if p<v then 0 else p-v+1
theorem visible_call (p v:Int)(hp:(Lit.int .i64 p).wf=true)(hv:(Lit.int .i64 v).wf=true)(w:World) :
  Calls Tryz.prog 58 #[.int .i64 p,.int .i64 v] w fun e w'=>e=.returned (.int .i64 (seeZ p v))∧w'=w:=by
 have bp:=bounds_i64 hp
 have bv:=bounds_i64 hv
 obtain⟨p0,p1⟩:=bp
 obtain⟨v0,v1⟩:=bv
 unfold seeZ
 by_cases h:v<1
 ·rw[if_pos h]
  go_enter Tryz.func58,Tryz.ntmps58
  go_wp2
  go_ret
  exact⟨rfl,rfl⟩
 ·rw[if_neg h]
  by_cases h':p<v
  ·rw[if_pos h']
   go_enter Tryz.func58,Tryz.ntmps58
   go_wp2
   go_ret
   exact⟨rfl,rfl⟩
  ·rw[if_neg h']
   go_enter Tryz.func58,Tryz.ntmps58
   go_wp2
   go_ret
   exact⟨rfl,rfl⟩
end
section
theorem set_same {w:World}{b i:Nat}{v:Value}(h:w.cell? ⟨b,i,none⟩=some v):w.setCell ⟨b,i,none⟩ v=w:=by
 unfold World.cell? at h
 split at h
 ·rename_i c e f hb
  have hc:c[i]? = some v:=by simpa using h
  obtain⟨hlt,hv⟩:=Array.getElem?_eq_some_iff.1 hc
  have hh:w.heap.modify b (fun|.cells c elem frozen=>.cells (c.setIfInBounds i v) elem frozen|o=>o)=w.heap:=by
   apply Array.ext_getElem?
   intro k
   rw[Array.getElem?_modify]
   by_cases e:b=k
   ·subst e
    simp only[if_true,hb,Option.map_some]
    congr 2
    apply Array.ext_getElem?
    intro m
    rw[Array.getElem?_setIfInBounds]
    by_cases e:i=m
    ·subst e
     simp[hlt,hv]
    ·rw[if_neg e]
   ·rw[if_neg e]
  show ({ w with heap:=w.heap.modify b (fun|.cells c elem frozen=>.cells (c.setIfInBounds i v) elem frozen|o=>o) }:World)=w
  rw[hh]
 ·cases h
end
section
theorem below_cell {w w':World}{p:Addr}{v:Value}(hb:Below w.heap.size w w')(h:w.cell? p=some v):w'.cell? p=some v:=(hb.cell (World.block_lt_of_cell? w p h)).trans h
end
section
theorem grrun_field {p:Addr}(f:Nat)(hf:f<4)(w:World):(Instr.fieldAt 61 (.pointer (some p)) f).run Tryz.prog w=.ok (.pointer (some (p.add f))) w:=by
 rcases (show f=0∨f=1∨f=2∨f=3 by omega) with rfl|rfl|rfl|rfl<;>go_simp
variable {N:Nat}{D:Nat→Option Nat}{a0:Act}{R:(Nat→Bool)→Act→World→Prop}{F:(Nat→Bool)→Nat→Value→World→Prop}{l:Nat→Bool}{a:Act}{w:World}
end
end Go.Proofs.YthliomlmhfjhnaaGreat

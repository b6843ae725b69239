/- Texts put together. -/
import Derived.Test.YthliomlmhfjhnaaGreatRows
import Derived.Test.YthliomlmhfjhnaaGreatZpA
import Derived.Below
import Derived.BigQuiet
import Derived.Deep.QuietTactic
import Derived.OpenShut
import Derived.ProofKit
import Derived.WalkKit
import Derived.Deep.RegionWith
import Derived.WalkLawsBesides
import Derived.ArgAppend
import Derived.Deep.RegionLaw
import Derived.Laws.AppendOwnNone
import Derived.Defers
import Derived.Laws.Pointers
import Derived.Recover
namespace Go.Proofs.YthliomlmhfjhnaaGreat
set_option maxRecDepth 20000
set_option maxHeartbeats 16000000
open Go.ChangeShapes Go.WideShapes Go.ChangeAt Go.RowKit
set_option linter.unusedVariables false
set_option linter.unusedSimpArgs false
structure Reads (k:IntKind) (w:World) (a:Option Addr) (n:Nat) (zs:List Int):Prop where
 len:zs.length=n
 max:n≤9223372036854775807
 wf:∀ i,(Lit.int k (zs.getD i 0)).wf=true
 some_:0<n→∃ x,a=some x
 cell:∀ x,a=some x→∀ i,i<n→w.cell? (x.add i)=some (.int k (zs.getD i 0))
theorem Qc1 (k:IntKind):(Lit.int k 0).wf=true:=by cases k<;>decide
theorem Reads.nil (k:IntKind)(w:World):Reads k w none 0 [] :=
 ⟨rfl,by omega,fun i=>by simpa using Qc1 k,fun h=>by omega,fun _ h=>by cases h⟩
theorem Reads.of_row {k:IntKind}{w:World}{x:Addr}{n:Nat}{zs:List Int}(h0:zs.length=n)(h1:n≤9223372036854775807)(h2:∀ z∈zs,(Lit.int k z).wf=true)
  (h3:∀ i,i<n→w.cell? (x.add i)=some (.int k (zs.getD i 0))):Reads k w (some x) n zs:=by
 refine⟨h0,h1,fun i=>?_,fun _=>⟨x,rfl⟩,fun y hy=>?_⟩
 ·by_cases hi:i<zs.length
  ·have e:zs.getD i 0=zs[i]:=by simp[List.getD,hi]
   rw[e]
   exact h2 _ (List.getElem_mem hi)
  ·have e:zs.getD i 0=0:=by simp[List.getD,hi]
   rw[e]
   exact Qc1 k
 ·obtain rfl:=Option.some.inj hy
  exact h3
theorem Reads.carry {k:IntKind}{w w':World}{a:Option Addr}{n:Nat}{zs:List Int}(h:Reads k w a n zs)(hc:∀ p v,w.cell? p=some v→w'.cell? p=some v):Reads k w' a n zs :=
 ⟨h.len,h.max,h.wf,h.some_,fun x hx i hi=>hc _ _ (h.cell x hx i hi)⟩
theorem Reads.below {k:IntKind}{w w':World}{a:Option Addr}{n:Nat}{zs:List Int}(h:Reads k w a n zs)(hb:Bw w w'):Reads k w' a n zs :=
 h.carry fun p v hp=>(hb.cell (World.block_lt_of_cell? w p hp)).trans hp
theorem Reads.drewN {k:IntKind}{w:World}{a:Option Addr}{n:Nat}{zs:List Int}(h:Reads k w a n zs)(m:Nat):Reads k (w.drewN m) a n zs:=h.carry fun _ _ hp=>hp
theorem Reads.of_open {k:IntKind}{w:World}{x:Addr}{n c:Nat}{zs:List Int}(hl:n≤c)(hm:c≤maxLen)(hz:zs.length=c)
  (hc:∀ i,i<zs.length→w.cell? (x.add i)=some (.int k (zs.getD i 0))) (hw:∀ z∈zs,(Lit.int k z).wf=true):Reads k w (some x) n (zs.take n):=by
 refine Reads.of_row (by rw[List.length_take];omega) (by unfold maxLen at hm;omega) (fun z h=>hw z (List.mem_of_mem_take h)) fun i hi=>?_
 rw[hc i (by omega)]
 have e:(zs.take n).getD i 0=zs.getD i 0:=by simp[List.getD,hi]
 rw[e]
theorem Qic {H:Type}{k:IntKind}{n c:Nat}{zs:List Int}(hz:zs.length=c)(hl:n≤c):n≤(lits (H:=H) k (zs.take n)).length+(lits (H:=H) k (zs.drop n)).length:=by
 simp only[lits,List.length_map,List.length_take,List.length_drop]
 omega
theorem bDr {B:Nat}{a w w':World}(hb:Below B a w)(h:∃ m,w'=w.drewN m):Below B a w':=by
 obtain⟨m,rfl⟩:=h
 exact⟨hb.os,hb.tape,hb.output,hb.size,hb.block⟩
theorem bNw {w W:World}(h:Below w.heap.size w W)(o:Obj):Below w.heap.size w (W.alloc o):=h.alloc h.size o
theorem bTn {w W W':World}(h:Below w.heap.size w W)(k:Below W.heap.size W W'):Below w.heap.size w W':=h.trans (k.mono h.size)
theorem Reads.wf_mem {k:IntKind}{w:World}{a:Option Addr}{n:Nat}{zs:List Int}(h:Reads k w a n zs):∀ z∈zs,(Lit.int k z).wf=true:=by
 intro z hz
 obtain⟨i,hi,e⟩:=List.getElem_of_mem hz
 have:=h.wf i
 rwa [show zs.getD i 0=z by simp[List.getD,hi,e]] at this
theorem Reads.cut {k:IntKind}{w:World}{x:Addr}{n:Nat}{zs:List Int}(h:Reads k w (some x) n zs)(l m:Nat)(hm:l+m≤n):Reads k w (some (x.add l)) m ((zs.drop l).take m):=by
 have hl:=h.len
 have e:∀ i,i<m→((zs.drop l).take m).getD i 0=zs.getD (l+i) 0:=fun i hi=>by simp[List.getD,hi]
 refine Reads.of_row (by rw[List.length_take,List.length_drop];omega) (by have:=h.max;omega) (fun z hz=>h.wf_mem z (List.mem_of_mem_drop (List.mem_of_mem_take hz))) fun i hi=>?_
 rw[Addr.add_add,e i hi]
 exact h.cell x rfl (l+i) (by omega)
def QbY (d h:Int):Bool:=decide (2≤d∧d≤8∧1≤h∧d%h=0∧d/h%2=0)
def Qak (x t:Int):Bool:=decide ((x=0∧t=0)∨(2≤x∧x≤4∧1≤t∧t≤x))
theorem QaS (n a b:Int)(w:World):Calls Tryz.prog 79 #[I4 n,I4 a,I4 b] w fun e w'=>e=.returned (.bool (decide (a≤n∧n≤b)))∧w'=w:=by
 by_cases h1:a≤n
 ·by_cases h2:n≤b
  ·rw[show decide (a≤n∧n≤b)=true by simp[h1,h2]]
   go_enter Tryz.func79,Tryz.ntmps79
   go_wp2
   go_ret
   exact⟨rfl,rfl⟩
  ·rw[show decide (a≤n∧n≤b)=false by simp[h2]]
   go_enter Tryz.func79,Tryz.ntmps79
   go_wp2
   go_ret
   exact⟨rfl,rfl⟩
 ·rw[show decide (a≤n∧n≤b)=false by simp[h1]]
  go_enter Tryz.func79,Tryz.ntmps79
  go_wp2
  go_ret
  exact⟨rfl,rfl⟩
theorem Qcm (n a b:Int)(w:World):Calls Tryz.prog 80 #[I4 n,I4 a,I4 b] w fun e w'=>e=.returned (.bool (decide (a≤n∧n≤b)))∧w'=w:=by
 by_cases h1:a≤n
 ·by_cases h2:n≤b
  ·rw[show decide (a≤n∧n≤b)=true by simp[h1,h2]]
   go_enter Tryz.func80,Tryz.ntmps80
   go_wp2
   go_ret
   exact⟨rfl,rfl⟩
  ·rw[show decide (a≤n∧n≤b)=false by simp[h2]]
   go_enter Tryz.func80,Tryz.ntmps80
   go_wp2
   go_ret
   exact⟨rfl,rfl⟩
 ·rw[show decide (a≤n∧n≤b)=false by simp[h1]]
  go_enter Tryz.func80,Tryz.ntmps80
  go_wp2
  go_ret
  exact⟨rfl,rfl⟩
theorem Qg8 {d h:Int}(x:¬(2≤d∧d≤8)):QbY d h=false:=decide_eq_false fun y=>x ⟨y.1,y.2.1⟩
theorem Qli {d h:Int}(x:h<1):QbY d h=false:=decide_eq_false fun y=>by have:=y.2.2.1;omega
theorem Qg7 {d h:Int}(x:¬d%h=0):QbY d h=false:=decide_eq_false fun y=>x y.2.2.2.1
theorem QeW {d h:Int}(x:2≤d∧d≤8)(y:1≤h)(z:d%h=0):QbY d h=((d/h).tmod 2==0):=by
 have e:(d/h).tmod 2=d/h%2:=Int.tmod_eq_emod_of_nonneg (Int.ediv_nonneg (by have:=x.1;omega) (by omega))
 rw[e]
 unfold QbY
 by_cases g:d/h%2=0
 ·rw[decide_eq_true ⟨x.1,x.2,y,z,g⟩,g];rfl
 ·rw[decide_eq_false (fun u=>g u.2.2.2.2)]
  exact (beq_false_of_ne g).symm
theorem QeD (d h l v u x t n:Int)(w:World):Calls Tryz.prog 77 #[.agg (c8 d h l v u x t n)] w fun e w'=>e=.returned (.bool (QbY d h))∧Bw w w':=by
 have k1:=QaS d 2 8
 by_cases g0:2≤d∧d≤8
 ·simp only[decide_eq_true g0] at k1
  by_cases g1:h<1
  ·rw[Qli g1]
   go_enter Tryz.func77,Tryz.ntmps77
   go_wp2_with (first|(go_at_call 79;refine (k1 _).mono ?_;rintro e w' ⟨rfl,rfl⟩))
   go_ret
   exact⟨rfl,(bT w).alloc nL _⟩
  ·have g1':1≤h:=by omega
   obtain⟨g3,g4⟩:=g0
   by_cases g2:d%h=0
   ·rw[QeW ⟨g3,g4⟩ g1' g2]
    go_enter Tryz.func77,Tryz.ntmps77
    go_wp2_with (first|(go_at_call 79;refine (k1 _).mono ?_;rintro e w' ⟨rfl,rfl⟩))
    go_ret
    exact⟨rfl,(bT w).alloc nL _⟩
   ·rw[Qg7 g2]
    go_enter Tryz.func77,Tryz.ntmps77
    go_wp2_with (first|(go_at_call 79;refine (k1 _).mono ?_;rintro e w' ⟨rfl,rfl⟩))
    go_ret
    exact⟨rfl,(bT w).alloc nL _⟩
 ·simp only[decide_eq_false g0] at k1
  rw[Qg8 g0]
  clear g0
  go_enter Tryz.func77,Tryz.ntmps77
  go_wp2_with (first|(go_at_call 79;refine (k1 _).mono ?_;rintro e w' ⟨rfl,rfl⟩))
  go_ret
  exact⟨rfl,(bT w).alloc nL _⟩
theorem Qdx (d h l v u x t n:Int)(w:World):Calls Tryz.prog 78 #[.agg (c8 d h l v u x t n)] w fun e w'=>e=.returned (.bool (Qak x t))∧Bw w w':=by
 by_cases g0:x=0
 ·subst g0
  have e:Qak 0 t=(t==0):=by
   unfold Qak
   rw[Bool.eq_iff_iff]
   simp
  rw[e]
  clear e
  go_enter Tryz.func78,Tryz.ntmps78
  go_wp2
  go_ret
  exact⟨rfl,(bT w).alloc nL _⟩
 ·have k1:=QaS x 2 4
  have k2:=QaS t 1 x
  have g0':(x==0)=false:=by simp[g0]
  by_cases g1:2≤x∧x≤4
  ·have e:Qak x t=decide (1≤t∧t≤x):=by
    unfold Qak
    rw[Bool.eq_iff_iff]
    simp
    omega
   rw[e]
   clear e
   simp only[decide_eq_true g1] at k1
   clear g1 g0
   obtain⟨B,eB⟩:∃ B,decide (1≤t∧t≤x)=B:=⟨_,rfl⟩
   simp only[eB] at k2 ⊢
   clear eB
   go_enter Tryz.func78,Tryz.ntmps78
   go_wp2_with (first|(go_at_call_of 79 t;clear k1;refine (k2 _).mono ?_;rintro e w' ⟨rfl,rfl⟩)|(go_at_call 79;refine (k1 _).mono ?_;rintro e w' ⟨rfl,rfl⟩))
   go_ret
   exact⟨rfl,(bT w).alloc nL _⟩
  ·have e:Qak x t=false:=by
    unfold Qak
    rw[Bool.eq_iff_iff]
    simp
    omega
   rw[e]
   clear e
   simp only[decide_eq_false g1] at k1
   clear g1 g0 k2
   go_enter Tryz.func78,Tryz.ntmps78
   go_wp2_with (first|(go_at_call 79;refine (k1 _).mono ?_;rintro e w' ⟨rfl,rfl⟩))
   go_ret
   exact⟨rfl,(bT w).alloc nL _⟩
def okB (d h l v u x t n:Int):Bool:=QbY d h && (Qak x t && (decide (1≤l∧l≤2) && (decide (2≤v∧v≤16) && (decide (1≤u∧u≤8) && decide (0≤n∧n≤16)))))
def Blk (t:TypeId)(w:World)(b:Nat)(cs:Array Value):Prop:=w.heap[b]? = some (.cells cs t (0,0))
theorem Blk.lt {t:TypeId}{w:World}{b:Nat}{cs:Array Value}(h:Blk t w b cs):b<w.heap.size:=(Array.getElem?_eq_some_iff.1 h).1
theorem Blk.cell {t:TypeId}{w:World}{b:Nat}{cs:Array Value}(h:Blk t w b cs)(i:Nat){v:Value}(hi:cs[i]? = some v):w.cell? ⟨b,i,none⟩=some v:=by simp[World.cell?,show w.heap[b]? = _ from h,hi]
theorem Blk.open_ {t:TypeId}{w:World}{b:Nat}{cs:Array Value}(h:Blk t w b cs)(i:Nat):w.frozen? ⟨b,i,none⟩=false:=by simp[World.frozen?,show w.heap[b]? = _ from h]
theorem Blk.new (t:TypeId)(w:World)(cs:Array Value):Blk t (w.alloc (.cells cs t)) w.heap.size cs:=heap_alloc_new w _
theorem Blk.kept {t:TypeId}{w w':World}{b:Nat}{cs:Array Value}(h:Blk t w b cs)(hb:Bw w w'):Blk t w' b cs:=(hb.block b h.lt).trans h
theorem Blk.set {t:TypeId}{w:World}{b:Nat}{cs:Array Value}(h:Blk t w b cs)(i:Nat)(v:Value):Blk t (w.setCell ⟨b,i,none⟩ v) b (cs.setIfInBounds i v):=by
 have e:w.heap[b]? = some (.cells cs t (0,0)):=h
 have h1:=setCell_eq_setRow w b i cs t (0,0) v e
 have h2:=setRow_heap w b cs (cs.setIfInBounds i v) t (0,0) e
 show (w.setCell ⟨b,i,none⟩ v).heap[b]? = _
 rw[h1]
 exact h2
theorem Blk.cfg {t0:TypeId}{w:World}{b:Nat}{d h l v u x t n:Int}(k:Blk t0 w b (c8 d h l v u x t n)) :
  w.cell? ⟨b,0,none⟩=some (I4 d)∧w.cell? ⟨b,1,none⟩=some (I4 h)∧w.cell? ⟨b,2,none⟩=some (I4 l)∧w.cell? ⟨b,3,none⟩=some (I4 v) ∧
  w.cell? ⟨b,4,none⟩=some (I4 u)∧w.cell? ⟨b,5,none⟩=some (I4 x)∧w.cell? ⟨b,6,none⟩=some (I4 t)∧w.cell? ⟨b,7,none⟩=some (I4 n) :=
 ⟨k.cell 0 rfl,k.cell 1 rfl,k.cell 2 rfl,k.cell 3 rfl,k.cell 4 rfl,k.cell 5 rfl,k.cell 6 rfl,k.cell 7 rfl⟩
theorem Qir (d h l v u x t n:Int)(w:World)(B1 B2 B3 B4 B5 B6:Bool)
  (k1:∀ w,Calls Tryz.prog 77 #[.agg (c8 d h l v u x t n)] w fun e w'=>e=.returned (.bool B1)∧Bw w w')
  (k2:∀ w,Calls Tryz.prog 78 #[.agg (c8 d h l v u x t n)] w fun e w'=>e=.returned (.bool B2)∧Bw w w')
  (k3:∀ w,Calls Tryz.prog 79 #[I4 l,I4 1,I4 2] w fun e w'=>e=.returned (.bool B3)∧w'=w)
  (k4:∀ w,Calls Tryz.prog 79 #[I4 v,I4 2,I4 16] w fun e w'=>e=.returned (.bool B4)∧w'=w)
  (k5:∀ w,Calls Tryz.prog 79 #[I4 u,I4 1,I4 8] w fun e w'=>e=.returned (.bool B5)∧w'=w)
  (k6:∀ w,Calls Tryz.prog 79 #[I4 n,I4 0,I4 16] w fun e w'=>e=.returned (.bool B6)∧w'=w) :
  Calls Tryz.prog 35 #[.agg (c8 d h l v u x t n)] w fun e w'=>e=.returned (.bool (B1 && (B2 && (B3 && (B4 && (B5 && B6))))))∧Bw w w':=by
 have hb:=bNw (bS w) (.cells (c8 d h l v u x t n) 23)
 have key:=Blk.new 23 w (c8 d h l v u x t n)
 cases B1 with
 | false =>
  go_enter Tryz.func35,Tryz.ntmps35
  go_wp2_with (first
    | (go_at_call 77;refine (k1 _).mono ?_;rintro e W1 ⟨rfl,h1⟩;clear k1;obtain⟨c0,c1,c2,c3,c4,c5,c6,c7⟩:=(key.kept h1).cfg;replace key:=key.kept h1;replace hb:=bTn hb h1;clear h1)
    | (go_at_call 78;refine (k2 _).mono ?_;rintro e W2 ⟨rfl,h2⟩;clear k2 c0 c1 c2 c3 c4 c5 c6 c7;obtain⟨c0,c1,c2,c3,c4,c5,c6,c7⟩:=(key.kept h2).cfg;replace hb:=bTn hb h2;clear h2)
    | (go_at_call_of 79 l;refine (k3 _).mono ?_;rintro e W3 ⟨rfl,h3⟩;obtain rfl:=h3.symm)
    | (go_at_call_of 79 v;refine (k4 _).mono ?_;rintro e W4 ⟨rfl,h4⟩;obtain rfl:=h4.symm)
    | (go_at_call_of 79 u;refine (k5 _).mono ?_;rintro e W5 ⟨rfl,h5⟩;obtain rfl:=h5.symm)
    | (go_at_call_of 79 n;refine (k6 _).mono ?_;rintro e W6 ⟨rfl,h6⟩;obtain rfl:=h6.symm))
  go_ret
  exact⟨rfl,hb⟩
 | true =>
  cases B2 with
  | false =>
   go_enter Tryz.func35,Tryz.ntmps35
   go_wp2_with (first
     | (go_at_call 77;refine (k1 _).mono ?_;rintro e W1 ⟨rfl,h1⟩;clear k1;obtain⟨c0,c1,c2,c3,c4,c5,c6,c7⟩:=(key.kept h1).cfg;replace key:=key.kept h1;replace hb:=bTn hb h1;clear h1)
     | (go_at_call 78;refine (k2 _).mono ?_;rintro e W2 ⟨rfl,h2⟩;clear k2 c0 c1 c2 c3 c4 c5 c6 c7;obtain⟨c0,c1,c2,c3,c4,c5,c6,c7⟩:=(key.kept h2).cfg;replace hb:=bTn hb h2;clear h2)
     | (go_at_call_of 79 l;refine (k3 _).mono ?_;rintro e W3 ⟨rfl,h3⟩;obtain rfl:=h3.symm)
     | (go_at_call_of 79 v;refine (k4 _).mono ?_;rintro e W4 ⟨rfl,h4⟩;obtain rfl:=h4.symm)
     | (go_at_call_of 79 u;refine (k5 _).mono ?_;rintro e W5 ⟨rfl,h5⟩;obtain rfl:=h5.symm)
     | (go_at_call_of 79 n;refine (k6 _).mono ?_;rintro e W6 ⟨rfl,h6⟩;obtain rfl:=h6.symm))
   go_ret
   exact⟨rfl,hb⟩
  | true =>
   cases B3 with
   | false =>
    go_enter Tryz.func35,Tryz.ntmps35
    go_wp2_with (first
      | (go_at_call 77;refine (k1 _).mono ?_;rintro e W1 ⟨rfl,h1⟩;clear k1;obtain⟨c0,c1,c2,c3,c4,c5,c6,c7⟩:=(key.kept h1).cfg;replace key:=key.kept h1;replace hb:=bTn hb h1;clear h1)
      | (go_at_call 78;refine (k2 _).mono ?_;rintro e W2 ⟨rfl,h2⟩;clear k2 c0 c1 c2 c3 c4 c5 c6 c7;obtain⟨c0,c1,c2,c3,c4,c5,c6,c7⟩:=(key.kept h2).cfg;replace hb:=bTn hb h2;clear h2)
      | (go_at_call_of 79 l;refine (k3 _).mono ?_;rintro e W3 ⟨rfl,h3⟩;obtain rfl:=h3.symm)
      | (go_at_call_of 79 v;refine (k4 _).mono ?_;rintro e W4 ⟨rfl,h4⟩;obtain rfl:=h4.symm)
      | (go_at_call_of 79 u;refine (k5 _).mono ?_;rintro e W5 ⟨rfl,h5⟩;obtain rfl:=h5.symm)
      | (go_at_call_of 79 n;refine (k6 _).mono ?_;rintro e W6 ⟨rfl,h6⟩;obtain rfl:=h6.symm))
    go_ret
    exact⟨rfl,hb⟩
   | true =>
    cases B4 with
    | false =>
     go_enter Tryz.func35,Tryz.ntmps35
     go_wp2_with (first
       | (go_at_call 77;refine (k1 _).mono ?_;rintro e W1 ⟨rfl,h1⟩;clear k1;obtain⟨c0,c1,c2,c3,c4,c5,c6,c7⟩:=(key.kept h1).cfg;replace key:=key.kept h1;replace hb:=bTn hb h1;clear h1)
       | (go_at_call 78;refine (k2 _).mono ?_;rintro e W2 ⟨rfl,h2⟩;clear k2 c0 c1 c2 c3 c4 c5 c6 c7;obtain⟨c0,c1,c2,c3,c4,c5,c6,c7⟩:=(key.kept h2).cfg;replace hb:=bTn hb h2;clear h2)
       | (go_at_call_of 79 l;refine (k3 _).mono ?_;rintro e W3 ⟨rfl,h3⟩;obtain rfl:=h3.symm)
       | (go_at_call_of 79 v;refine (k4 _).mono ?_;rintro e W4 ⟨rfl,h4⟩;obtain rfl:=h4.symm)
       | (go_at_call_of 79 u;refine (k5 _).mono ?_;rintro e W5 ⟨rfl,h5⟩;obtain rfl:=h5.symm)
       | (go_at_call_of 79 n;refine (k6 _).mono ?_;rintro e W6 ⟨rfl,h6⟩;obtain rfl:=h6.symm))
     go_ret
     exact⟨rfl,hb⟩
    | true =>
     cases B5 with
     | false =>
      go_enter Tryz.func35,Tryz.ntmps35
      go_wp2_with (first
        | (go_at_call 77;refine (k1 _).mono ?_;rintro e W1 ⟨rfl,h1⟩;clear k1;obtain⟨c0,c1,c2,c3,c4,c5,c6,c7⟩:=(key.kept h1).cfg;replace key:=key.kept h1;replace hb:=bTn hb h1;clear h1)
        | (go_at_call 78;refine (k2 _).mono ?_;rintro e W2 ⟨rfl,h2⟩;clear k2 c0 c1 c2 c3 c4 c5 c6 c7;obtain⟨c0,c1,c2,c3,c4,c5,c6,c7⟩:=(key.kept h2).cfg;replace hb:=bTn hb h2;clear h2)
        | (go_at_call_of 79 l;refine (k3 _).mono ?_;rintro e W3 ⟨rfl,h3⟩;obtain rfl:=h3.symm)
        | (go_at_call_of 79 v;refine (k4 _).mono ?_;rintro e W4 ⟨rfl,h4⟩;obtain rfl:=h4.symm)
        | (go_at_call_of 79 u;refine (k5 _).mono ?_;rintro e W5 ⟨rfl,h5⟩;obtain rfl:=h5.symm)
        | (go_at_call_of 79 n;refine (k6 _).mono ?_;rintro e W6 ⟨rfl,h6⟩;obtain rfl:=h6.symm))
      go_ret
      exact⟨rfl,hb⟩
     | true =>
      cases B6 with
      | false =>
       go_enter Tryz.func35,Tryz.ntmps35
       go_wp2_with (first
         | (go_at_call 77;refine (k1 _).mono ?_;rintro e W1 ⟨rfl,h1⟩;clear k1;obtain⟨c0,c1,c2,c3,c4,c5,c6,c7⟩:=(key.kept h1).cfg;replace key:=key.kept h1;replace hb:=bTn hb h1;clear h1)
         | (go_at_call 78;refine (k2 _).mono ?_;rintro e W2 ⟨rfl,h2⟩;clear k2 c0 c1 c2 c3 c4 c5 c6 c7;obtain⟨c0,c1,c2,c3,c4,c5,c6,c7⟩:=(key.kept h2).cfg;replace hb:=bTn hb h2;clear h2)
         | (go_at_call_of 79 l;refine (k3 _).mono ?_;rintro e W3 ⟨rfl,h3⟩;obtain rfl:=h3.symm)
         | (go_at_call_of 79 v;refine (k4 _).mono ?_;rintro e W4 ⟨rfl,h4⟩;obtain rfl:=h4.symm)
         | (go_at_call_of 79 u;refine (k5 _).mono ?_;rintro e W5 ⟨rfl,h5⟩;obtain rfl:=h5.symm)
         | (go_at_call_of 79 n;refine (k6 _).mono ?_;rintro e W6 ⟨rfl,h6⟩;obtain rfl:=h6.symm))
       go_ret
       exact⟨rfl,hb⟩
      | true =>
       go_enter Tryz.func35,Tryz.ntmps35
       go_wp2_with (first
         | (go_at_call 77;refine (k1 _).mono ?_;rintro e W1 ⟨rfl,h1⟩;clear k1;obtain⟨c0,c1,c2,c3,c4,c5,c6,c7⟩:=(key.kept h1).cfg;replace key:=key.kept h1;replace hb:=bTn hb h1;clear h1)
         | (go_at_call 78;refine (k2 _).mono ?_;rintro e W2 ⟨rfl,h2⟩;clear k2 c0 c1 c2 c3 c4 c5 c6 c7;obtain⟨c0,c1,c2,c3,c4,c5,c6,c7⟩:=(key.kept h2).cfg;replace hb:=bTn hb h2;clear h2)
         | (go_at_call_of 79 l;refine (k3 _).mono ?_;rintro e W3 ⟨rfl,h3⟩;obtain rfl:=h3.symm)
         | (go_at_call_of 79 v;refine (k4 _).mono ?_;rintro e W4 ⟨rfl,h4⟩;obtain rfl:=h4.symm)
         | (go_at_call_of 79 u;refine (k5 _).mono ?_;rintro e W5 ⟨rfl,h5⟩;obtain rfl:=h5.symm)
         | (go_at_call_of 79 n;refine (k6 _).mono ?_;rintro e W6 ⟨rfl,h6⟩;obtain rfl:=h6.symm))
       go_ret
       exact⟨rfl,hb⟩
theorem QcU (d h l v u x t n:Int)(w:World):Calls Tryz.prog 35 #[.agg (c8 d h l v u x t n)] w fun e w'=>e=.returned (.bool (okB d h l v u x t n))∧Bw w w' :=
 Qir d h l v u x t n w _ _ _ _ _ _ (QeD d h l v u x t n) (Qdx d h l v u x t n) (QaS l 1 2) (QaS v 2 16) (QaS u 1 8) (QaS n 0 16)
def cZ (x:Int):Int:=if x < -2147483648 then -2147483648 else if 2147483647<x then 2147483647 else x
theorem QaE {k:IntKind}{a b:Int}(h:a=b):Ending.returned (.int k a)=.returned (.int k b):=by rw[h]
theorem QcY (n:Int):wrap64 n=(n+9223372036854775808)%18446744073709551616-9223372036854775808:=by unfold wrap64;rfl
theorem cCa (x:Int)(w:World) :
  Calls Tryz.prog 114 #[I4 x] w fun e w'=>e=.returned (I4 (cZ x))∧w'=w:=by
 go_enter Tryz.func114,Tryz.ntmps114
 go_wp2
 all_goals (go_ret;refine⟨QaE ?_,rfl⟩;unfold cZ;repeat' split)
 all_goals omega
def shN (s n:Int):Int:=(s/2 ^ (n.toNat-1)+1)/2
def Qac (x n:Int):Int:=if n≤0 then x else if x<0 then -(shN (-x) (min n 62)) else shN x (min n 62)
theorem Ql9 (n:Int)(hn:1≤n):(2:Int) ^ n.toNat=2 ^ (n.toNat-1)*2:=by
 have e:n.toNat=(n.toNat-1)+1:=by omega
 rw[e,Int.pow_succ,←e]
theorem Qf9 (s n:Int)(hn:1≤n):s/2 ^ n.toNat=s/2 ^ (n.toNat-1)/2:=by
 rw[Ql9 n hn,Int.ediv_ediv_of_nonneg (Int.le_of_lt (Int.pow_pos (by decide)))]
theorem Qa8 (s:Int)(k:Nat)(h:0≤s):0≤s/2 ^ k∧s/2 ^ k≤s :=
 ⟨Int.ediv_nonneg h (Int.le_of_lt (Int.pow_pos (by decide))),Int.ediv_le_self _ h⟩
theorem Qhq (n:Int)(h0:0≤n)(h1:n≤18446744073709551615):IntKind.u64.wrap n=n:=by
 rw[IntKind.wrap_u64];omega
theorem Qbb (s n:Int)(hs:(Lit.int .u64 s).wf=true)(hn:1≤n∧n≤62)(w:World) :
  Calls Tryz.prog 131 #[.int .u64 s,I4 n] w fun e w'=>e=.returned (.int .u64 (shN s n))∧w'=w:=by
 have bs:=bounds_u64 hs
 go_enter Tryz.func131,Tryz.ntmps131
 go_wp2
 all_goals (go_ret;refine⟨QaE ?_,rfl⟩)
 have b1:=Qa8 s (n.toNat-1) bs.1
 rw[and_one_u64 _ b1.1 (by omega),Qf9 s n hn.1,Qhq _ (by omega) (by omega)]
 unfold shN
 omega
theorem Qa3 (s n:Int)(hs:0≤s)(h1:s≤9223372036854775808)(hn:1≤n):0≤shN s n∧shN s n≤4611686018427387904+1:=by
 have b1:=Qa8 s (n.toNat-1) hs
 unfold shN
 omega
theorem Qnb (x:Int)(h0:-9223372036854775808≤x)(h1:x<0):IntKind.u64.wrap (-IntKind.u64.wrap x) = -x:=by
 rw[IntKind.wrap_u64,IntKind.wrap_u64];omega
theorem Qef {n:Int}(h0:0≤n)(h1:n≤18446744073709551615):(Lit.int .u64 n).wf=true:=WalkArith.wf_u64 ⟨h0,h1⟩
theorem shift_call (x n:Int)(hx:(Lit.int .i64 x).wf=true)(hn:(Lit.int .i64 n).wf=true)(w:World) :
  Calls Tryz.prog 115 #[I4 x,I4 n] w fun e w'=>e=.returned (I4 (Qac x n))∧w'=w:=by
 have bx:=bounds_i64 hx
 by_cases n0:n≤0
 ·have e:Qac x n=x:=by unfold Qac;rw[if_pos n0]
  rw[e]
  go_enter Tryz.func115,Tryz.ntmps115
  go_wp2
  go_ret
  exact⟨rfl,rfl⟩
 ·by_cases x0:x<0
  ·have e:Qac x n = -(shN (-x) (min n 62)):=by unfold Qac;rw[if_neg n0,if_pos x0]
   rw[e]
   have en:=Qnb x bx.1 x0
   by_cases n1:62<n
   ·have em:min n 62=62:=by omega
    rw[em];clear e em
    have bb:=Qa3 (-x) 62 (by omega) (by omega) (by omega)
    have wfx:(Lit.int .u64 (-x)).wf=true:=Qef (by omega) (by omega)
    go_enter Tryz.func115,Tryz.ntmps115
    go_wp2_with (go_at_call 131;refine (Qbb _ _ wfx (by omega) _).mono ?_;rintro e w' ⟨rfl,rfl⟩)
    go_ret
    exact⟨rfl,rfl⟩
   ·have em:min n 62=n:=by omega
    rw[em];clear e em
    have bb:=Qa3 (-x) n (by omega) (by omega) (by omega)
    have wfx:(Lit.int .u64 (-x)).wf=true:=Qef (by omega) (by omega)
    go_enter Tryz.func115,Tryz.ntmps115
    go_wp2_with (go_at_call 131;refine (Qbb _ _ wfx (by omega) _).mono ?_;rintro e w' ⟨rfl,rfl⟩)
    go_ret
    exact⟨rfl,rfl⟩
  ·have e:Qac x n=shN x (min n 62):=by unfold Qac;rw[if_neg n0,if_neg x0]
   rw[e]
   have wfx:(Lit.int .u64 x).wf=true:=Qef (by omega) (by omega)
   by_cases n1:62<n
   ·have em:min n 62=62:=by omega
    rw[em];clear e em
    have bb:=Qa3 x 62 (by omega) (by omega) (by omega)
    go_enter Tryz.func115,Tryz.ntmps115
    go_wp2_with (go_at_call 131;refine (Qbb _ _ wfx (by omega) _).mono ?_;rintro e w' ⟨rfl,rfl⟩)
    go_ret
    exact⟨rfl,rfl⟩
   ·have em:min n 62=n:=by omega
    rw[em];clear e em
    have bb:=Qa3 x n (by omega) (by omega) (by omega)
    go_enter Tryz.func115,Tryz.ntmps115
    go_wp2_with (go_at_call 131;refine (Qbb _ _ wfx (by omega) _).mono ?_;rintro e w' ⟨rfl,rfl⟩)
    go_ret
    exact⟨rfl,rfl⟩
theorem wCz (x:Int):(Lit.int .i64 (cZ x)).wf=true:=by
 refine WalkArith.wf_i64 ?_
 unfold cZ
 repeat' split
 all_goals omega
theorem Qgd (x n:Int)(hx:(Lit.int .i64 x).wf=true):(Lit.int .i64 (Qac x n)).wf=true:=by
 have b:=bounds_i64 hx
 refine WalkArith.wf_i64 ?_
 unfold Qac
 split
 ·exact b
 ·split
  ·have:=Qa3 (-x) (min n 62) (by omega) (by omega) (by omega)
   omega
  ·have:=Qa3 x (min n 62) (by omega) (by omega) (by omega)
   omega
def mulZ (a b:Int):Int:=cZ (Qac (wrap64 (cZ a*cZ b)) 16)
theorem mul_call (a b:Int)(ha:(Lit.int .i64 a).wf=true)(hb:(Lit.int .i64 b).wf=true)(w:World) :
  Calls Tryz.prog 104 #[I4 a,I4 b] w fun e w'=>e=.returned (I4 (mulZ a b))∧w'=w:=by
 go_enter Tryz.func104,Tryz.ntmps104
 go_wp2_with (first|(go_at_call 114;refine (cCa _ _).mono ?_;rintro e w' ⟨rfl,rfl⟩)|(go_at_call 115;refine (shift_call _ _ (wrap64_wf _) (by decide) _).mono ?_;rintro e w' ⟨rfl,rfl⟩))
 go_ret
 exact⟨rfl,rfl⟩
theorem cZb (x:Int):-2147483648≤cZ x∧cZ x≤2147483647:=by
 unfold cZ
 repeat' split
 all_goals omega
def Qb6 (a:Int):Int:=if 0<a then 2147483647 else if a<0 then -2147483648 else 0
theorem nought_call (a:Int)(w:World) :
  Calls Tryz.prog 149 #[I4 a] w fun e w'=>e=.returned (I4 (Qb6 a))∧w'=w:=by
 go_enter Tryz.func149,Tryz.ntmps149
 go_wp2
 all_goals (go_ret;refine⟨QaE ?_,rfl⟩;unfold Qb6;repeat' split)
 all_goals omega
def divZ (a b:Int):Int:=if cZ b=0 then Qb6 (cZ a) else cZ (wrap64 ((cZ a*65536).tdiv (cZ b)))
theorem div_call (a b:Int)(ha:(Lit.int .i64 a).wf=true)(hb:(Lit.int .i64 b).wf=true)(w:World) :
  Calls Tryz.prog 135 #[I4 a,I4 b] w fun e w'=>e=.returned (I4 (divZ a b))∧w'=w:=by
 have ba:=cZb a
 have bb:=cZb b
 by_cases z:cZ b=0
 ·have e:divZ a b=Qb6 (cZ a):=by unfold divZ;rw[if_pos z]
  rw[e];clear e
  have z':(cZ b==0)=true:=by simp[z]
  clear z
  go_enter Tryz.func135,Tryz.ntmps135
  go_wp2_with (first|(go_at_call 114;refine (cCa _ _).mono ?_;rintro e w' ⟨rfl,rfl⟩)|(go_at_call 149;refine (nought_call _ _).mono ?_;rintro e w' ⟨rfl,rfl⟩))
  go_ret
  exact⟨rfl,rfl⟩
 ·have e:divZ a b=cZ (wrap64 ((cZ a*65536).tdiv (cZ b))):=by unfold divZ;rw[if_neg z]
  rw[e];clear e
  have z':(cZ b==0)=false:=by simp[z]
  go_enter Tryz.func135,Tryz.ntmps135
  go_wp2_with (first|(go_at_call 114;refine (cCa _ _).mono ?_;rintro e w' ⟨rfl,rfl⟩)|(go_at_call 149;refine (nought_call _ _).mono ?_;rintro e w' ⟨rfl,rfl⟩))
  go_ret
  exact⟨rfl,rfl⟩
def QaJ (n:Int):Int:=n%16
theorem QaI (L:List Int)(k:Nat)(h:k<L.length):(L.map (Value.int .i64)).toArray[k]? = some (I4 (L.getD k 0)):=by
 simp[h]
def tabP:List Int:=[65536,62757,60097,57549,55109,52773,50535,48393,46341,44376,42495,40693,38968,37316,35734,34219,32768]
def powZ (i:Int):Int:=tabP.getD i.toNat 0
def tabC:List Int:=[65536,60547,46341,25080,0,-25080,-46341,-60547,-65536,-60547,-46341,-25080,0,25080,46341,60547]
def tabS:List Int:=[0,25080,46341,60547,65536,60547,46341,25080,0,-25080,-46341,-60547,-65536,-60547,-46341,-25080]
def cosZ (n:Int):Int:=tabC.getD (QaJ n).toNat 0
def sinZ (n:Int):Int:=tabS.getD (QaJ n).toNat 0
theorem Qma:∀ k:Nat,k<16→0≤tabP.getD k 0-tabP.getD (k+1) 0∧tabP.getD k 0-tabP.getD (k+1) 0≤3000∧32768≤tabP.getD (k+1) 0∧tabP.getD k 0≤65536:=by
 decide
theorem QbV (i:Int)(h0:0≤i)(h1:i<16):0≤powZ i-powZ (i+1)∧powZ i-powZ (i+1)≤3000∧32768≤powZ (i+1)∧powZ i≤65536:=by
 have h:=Qma i.toNat (by omega)
 have e:(i+1).toNat=i.toNat+1:=by omega
 unfold powZ
 rw[e]
 exact h
def Qbd (f:Int):Int:=powZ (f/4096)-(powZ (f/4096)-powZ (f/4096+1))*(f%4096)/4096
theorem Qbv (d g:Int)(d0:0≤d)(d1:d≤3000)(g0:0≤g)(g1:g<4096):0≤d*g∧d*g≤d*4095 :=
 ⟨Int.mul_nonneg d0 g0,Int.mul_le_mul_of_nonneg_left (by omega) d0⟩
theorem between_call (f:Int)(h0:0≤f)(h1:f<65536)(w:World) :
  Calls Tryz.prog 148 #[I4 f] w fun e w'=>e=.returned (I4 (Qbd f))∧Bw w w':=by
 have i0:0≤f/4096:=by omega
 have i1:f/4096<17:=by omega
 have i2:f/4096+1<17:=by omega
 have s:=QbV (f/4096) i0 (by omega)
 have m:=Qbv (powZ (f/4096)-powZ (f/4096+1)) (f%4096) s.1 s.2.1 (by omega) (by omega)
 unfold Qbd
 obtain⟨p,ep⟩:∃ p,powZ (f/4096)=p:=⟨_,rfl⟩
 obtain⟨q,eq⟩:∃ q,powZ (f/4096+1)=q:=⟨_,rfl⟩
 rw[ep,eq] at s m ⊢
 have EP:Hid (powZ (f/4096)=p):=ep
 have EQ:Hid (powZ (f/4096+1)=q):=eq
 clear ep eq
 obtain⟨s1,s2,s3,s4⟩:=s
 obtain⟨m1,m2⟩:=m
 go_enter Tryz.func148,Tryz.ntmps148
 go_wp2
 generalize hW:w.alloc (Obj.cells _ _)=W1
 have hW':w.alloc (Obj.cells (tabP.map (Value.int .i64)).toArray 159)=W1:=hW
 have hg:Bw w W1:=by rw[←hW];exact bNw (bT w) _
 have c1:W1.cell? ⟨w.heap.size,(f/4096).toNat,none⟩=some (I4 p):=by
  rw[←hW',World.cell?_alloc_new,←EP.out];exact QaI _ _ (by show _<17;omega)
 have c2:W1.cell? ⟨w.heap.size,(f/4096+1).toNat,none⟩=some (I4 q):=by
  rw[←hW',World.cell?_alloc_new,←EQ.out];exact QaI _ _ (by show _<17;omega)
 clear hW hW'
 go_quiet (fail)
 go_wp2
 go_ret
 exact⟨rfl,bDr hg ⟨_,rfl⟩⟩
theorem QfE (L:List Int)(k:Nat)(h:k<(L.map (Value.int .i64)).length):Ending.returned (L.map (Value.int .i64))[k]=.returned (I4 (L.getD k 0)):=by
 have h':k<L.length:=by simpa using h
 simp[h']
def tZ (x:Int):Int:=-mulZ (min (cZ x) 0) 94548
def expZ (x:Int):Int:=if 16<tZ x/65536 then 0 else Qbd (tZ x%65536)/2 ^ (tZ x/65536).toNat
theorem Qdg (x:Int)(h:x≤0):cZ x≤0:=by
 unfold cZ
 repeat' split
 all_goals omega
theorem QgY (a b:Int):mulZ a b=cZ (if cZ a*cZ b<0 then -((-(cZ a*cZ b)/32768+1)/2) else (cZ a*cZ b/32768+1)/2):=by
 have ba:=cZb a
 have bb:=cZb b
 have p1:cZ a*cZ b≤4611686018427387904∧-4611686018427387904≤cZ a*cZ b:=by
  generalize cZ a=A at *
  generalize cZ b=B at *
  have h:=Int.natAbs_mul A B
  have h1:A.natAbs≤2147483648:=by omega
  have h2:B.natAbs≤2147483648:=by omega
  have h3:=Nat.mul_le_mul h1 h2
  omega
 have e:wrap64 (cZ a*cZ b)=cZ a*cZ b:=by
  rw[QcY];omega
 unfold mulZ
 rw[e]
 generalize cZ a*cZ b=M at *
 unfold Qac shN
 rw[if_neg (by decide)]
 rfl
theorem Qci (x:Int):0≤tZ x∧tZ x≤2147483648:=by
 have c:=cZb (if cZ (min (cZ x) 0)*cZ 94548<0 then -((-(cZ (min (cZ x) 0)*cZ 94548)/32768+1)/2) else (cZ (min (cZ x) 0)*cZ 94548/32768+1)/2)
 unfold tZ
 rw[QgY]
 have h:=Qdg (min (cZ x) 0) (by omega)
 have e:cZ 94548=94548:=by decide
 rw[e] at c ⊢
 refine⟨?_,by omega⟩
 generalize cZ (min (cZ x) 0)=A at *
 have:=Qdg (if A*94548<0 then -((-(A*94548)/32768+1)/2) else (A*94548/32768+1)/2) (by split<;>omega)
 omega
theorem Qmr:(Tryz.prog.info? 3).map (fun i=>(i.zero,i.size,i.bytes))=some (some (I4 0),1,8):=by kernel_rfl
theorem QaT:(Tryz.prog.info? 2).map (fun i=>(i.zero,i.size,i.bytes))=some (some (I4 0),1,8):=by kernel_rfl
theorem oRe {k:IntKind}{w:World}{B:Nat}{e:TypeId}{v:Value}{n:Nat}{cs:List Value}(h:w.ownsRow B e 1 v n cs){zs:List Int}(hl:zs.length=n)
  (hw:∀ z∈zs,(Lit.int k z).wf=true) (hc:∀ j,j<n→cs[j]? = some (.int k (zs.getD j 0))):∃ a c,v=.slice a n c∧Reads k w a n zs:=by
 rcases h.2 with⟨rfl,rfl⟩|⟨g,cap,cur,rfl,_,hg,hn,hm,hs,ht⟩
 ·obtain rfl:=List.eq_nil_of_length_eq_zero hl
  exact⟨none,0,rfl,Reads.nil _ _⟩
 ·refine⟨_,_,rfl,Reads.of_row hl (by unfold maxLen at hm;omega) hw fun i hi=>?_⟩
  exact h.cells (g:=g) rfl i _ (hc i hi)
theorem oRa {k:IntKind}{w:World}{B:Nat}{e:TypeId}{a:Option Addr}{n c:Nat}{cs:List Value}(h:w.ownsRow B e 1 (.slice a n c) n cs){zs:List Int}(hl:zs.length=n)
  (hw:∀ z∈zs,(Lit.int k z).wf=true) (hc:∀ j,j<n→cs[j]? = some (.int k (zs.getD j 0))):Reads k w a n zs:=by
 obtain⟨a',c',ev,hr⟩:=oRe h hl hw hc
 simp only[Value.slice.injEq] at ev
 rw[ev.1]
 exact hr
theorem set_step {cs:List Value}{n k:Nat}{u:Value}{F:Nat→Value}(hl:cs.length=n)(hk:k<n)(hu:u=F k)(h:∀ j,j<k→cs[j]? = some (F j)) :
  ∀ j,j<k+1→(cs.set k u)[j]? = some (F j):=by
 intro j hj
 by_cases e:j=k
 ·subst e
  subst hu
  simp[hl,hk]
 ·rw[List.getElem?_set_ne (by omega)]
  exact h j (by omega)
theorem oLe {w:World}{B:Nat}{e:TypeId}{v:Value}{n:Nat}{cs:List Value}(h:w.ownsRow B e 1 v n cs):cs.length=n:=by
 simpa using h.1
theorem Qai (w:World)(V:Value)(t:TypeId):∀ j u,[V][j]? = some u→(w.alloc (.cells #[V] t)).cell? ((⟨w.heap.size,0,none⟩:Addr).add j)=some u:=by
 intro j u hj
 match j,hj with
 | 0,hj=>simp at hj;subst hj;simp[Addr.add]
theorem QiN (w:World)(V:Value)(t:TypeId):∀ j u,[V][j]? = some u→(w.alloc (.cells #[V] t)).drew.cell? ((⟨w.heap.size,0,none⟩:Addr).add j)=some u:=Qai w V t
theorem Qgo (w:World)(o:Obj)(B:Nat)(h:B≤w.heap.size):B≤(w.alloc o).drew.heap.size:=by
 show B≤(w.heap.push o).size
 simp
 omega
theorem Qfu {w w':World}{r:Option Nat}(h:w.drew.grownBy w' r):w.grownBy w' r:=⟨h.os,h.tape,h.output,h.size,h.block⟩
theorem oOc (k:IntKind)(z:Int):∀ u∈[Value.int k z],u.oneCell'=true:=by
 intro u hu
 simp at hu
 subst hu
 rfl
def gath (F:Nat→Int)(kd:IntKind)(k:Nat):List Value:=(List.range k).map fun j=>.int kd (F j)
theorem Qlm (F:Nat→Int)(kd:IntKind)(k:Nat):gath F kd (k+1)=gath F kd k++[.int kd (F k)]:=by
 simp[gath,List.range_succ]
theorem QaP (F:Nat→Int)(kd:IntKind)(n j:Nat)(h:j<n):(gath F kd n)[j]? = some (.int kd (F j)):=by
 simp[gath,h]
theorem aSt {w wr w1:World}{B k:Nat}{e:TypeId}{kd:IntKind}{F:Nat→Int}{v v':Value}{Z:Int}{o:Obj}(hB:B≤wr.heap.size)(hz:Z=F k)(hb:Below B w wr)
  (hown:wr.ownsRow B e 1 v k (gath F kd k)) (hown':w1.ownsRow B e 1 v' (k+1) (gath F kd k++[.int kd Z])) (hg:(wr.alloc o).grownBy w1 v.ownBlock) :
  Below B w w1∧w1.ownsRow B e 1 v' (k+1) (gath F kd (k+1)):=by
 subst hz
 rw[Qlm]
 exact⟨(hb.alloc hB o).grown hg (by have:=(Below.refl B wr).alloc hB o;have:=this.size;omega) (fun g h=>(hown.lt g h).1),hown'⟩
def addZ (a b:Int):Int:=if 9223372036854775807<a+b then 9223372036854775807 else if a+b < -9223372036854775808 then -9223372036854775808 else a+b
theorem Qdn (a b:Int)(ha:(Lit.int .i64 a).wf=true)(hb:(Lit.int .i64 b).wf=true)(w:World) :
  Calls Tryz.prog 113 #[I4 a,I4 b] w fun e w'=>e=.returned (I4 (addZ a b))∧w'=w:=by
 have ba:=bounds_i64 ha
 have bb:=bounds_i64 hb
 go_enter Tryz.func113,Tryz.ntmps113
 go_wp2
 all_goals (go_ret;refine⟨QaE ?_,rfl⟩;have ew:=QcY (a+b);unfold addZ;repeat' split)
 all_goals omega
theorem Qbu (a b:Int)(ha:(Lit.int .i64 a).wf=true)(hb:(Lit.int .i64 b).wf=true)(w:World) :
  Calls Tryz.prog 72 #[I4 a,I4 b] w fun e w'=>e=.returned (I4 (addZ a b))∧w'=w:=by
 have ba:=bounds_i64 ha
 have bb:=bounds_i64 hb
 go_enter Tryz.func72,Tryz.ntmps72
 go_wp2
 all_goals (go_ret;refine⟨QaE ?_,rfl⟩;have ew:=QcY (a+b);unfold addZ;repeat' split)
 all_goals omega
theorem Qeg (a b:Int):(Lit.int .i64 (addZ a b)).wf=true:=by
 refine WalkArith.wf_i64 ?_
 unfold addZ
 repeat' split
 all_goals omega
structure Grid (w:World) (a:Option Addr) (n:Nat) (A:Nat→Option Addr) (C:Nat→Nat) (R:Nat→List Int):Prop where
 max:n≤9223372036854775807
 some_:0<n→∃ x,a=some x
 cell:∀ x,a=some x→∀ r,r<n→w.cell? (x.add r)=some (.slice (A r) (R r).length (C r))
 row:∀ r,r<n→Reads .i64 w (A r) (R r).length (R r)
theorem Grid.below {w w':World}{a:Option Addr}{n:Nat}{A:Nat→Option Addr}{C:Nat→Nat}{R:Nat→List Int}(h:Grid w a n A C R)(hb:Bw w w'):Grid w' a n A C R :=
 ⟨h.max,h.some_,fun x hx r hr=>(hb.cell (World.block_lt_of_cell? w _ (h.cell x hx r hr))).trans (h.cell x hx r hr),fun r hr=>(h.row r hr).below hb⟩
def Qe6 (w:World)(v v':Value):Prop:=v'.ownBlock=v.ownBlock∨∀ g,v'.ownBlock=some g→w.heap.size≤g
theorem Qcc {P:Program}(w:World)(base:Nat)(t ty e:TypeId)(i:TypeInfo)(z:Value)(bytes:Nat)(ht:P.underlying t=some (.slice e))(hi:P.info? e=some i)(hz:i.zero=some z)
  (hsize:i.size=1) (hby:i.bytes=bytes) (hzs:z.cells.size=1) (v:Value) (n:Nat) (xs:List Value) (hown:w.ownsRow base e 1 v n xs)
  (ad:Addr) (c:Nat) (V:Value) (hnews:∀ j u,[V][j]? = some u→w.cell? (ad.add j)=some u) (h1:∀ u∈[V],u.oneCell'=true)
  (h63:n+1≤maxLen) (hbytes:(n+1)*bytes≤140737488355328) (hbase:base≤w.heap.size) :
  ∃ v' w',(Builtin.append_ #[t,t] ty #[v,.slice (some ad) 1 c]).run P w=.ok v' w'∧w'.ownsRow base e 1 v' (n+1) (xs++[V])∧w.grownBy w' v.ownBlock∧Qe6 w v v':=by
 have weak:∀ {w':World}{v':Value}{cs:List Value},w'.ownsRow w.heap.size e 1 v' (n+1) cs→w'.ownsRow base e 1 v' (n+1) cs∧Qe6 w v v':=by
  intro w' v' cs h
  refine⟨⟨h.1,?_⟩,.inr fun g hg=>(h.lt g hg).1⟩
  rcases h.2 with h2|⟨g,cap,cur,hv,hg,r⟩
  ·exact .inl h2
  ·exact .inr ⟨g,cap,cur,hv,by omega,r⟩
 rcases hown.2 with⟨rfl,rfl⟩|⟨g,cap,cur,rfl,hg,hh,hn,hm,hs,htake⟩
 ·obtain rfl:xs=[]:=List.eq_nil_of_length_eq_zero (by simpa using hown.1)
  obtain⟨v',w',hr,h2,h3,_⟩:=run_append_own (P:=P) w w.heap.size t ty e i z 1 bytes ht hi hz hsize hby hzs (by decide) (.slice none 0 0) 0 [] (World.ownsRow_nil w _ e 1) ad 1 c [V] rfl hnews h1 h63 hbytes nL
  exact⟨v',w',hr,(weak h2).1,h3,(weak h2).2⟩
 ·by_cases hfit:n+1≤cap
  ·obtain⟨w',hr,h2,h3⟩:=run_append_fits (P:=P) w base t ty e i 1 ht hi hsize g n cap xs hown ad 1 c [V] rfl hnews h1 hfit
   exact⟨_,w',hr,h2,h3,.inl rfl⟩
  ·obtain⟨v',w',hr,h2,h3⟩:=run_append_arg_grows (P:=P) w t ty e i z 1 bytes ht hi hz hsize hby hzs (by decide) ⟨g,0,none⟩ n cap xs hown.1 (hown.cells rfl) ad 1 c [V] rfl hnews (by omega) h63 hbytes
   exact⟨v',w',hr,(weak h2).1,⟨h3.os,h3.tape,h3.output,h3.size,fun k hk _=>h3.block k hk (by simp)⟩,(weak h2).2⟩
theorem Qed {P:Program}(w:World){o:Oper}{a:Act}{K:Act→World→Prop}{Q:Exit→Act→World→Prop}(s x:Operand)(t:TypeId)
  (ho:o.op=.call { callee:=.builtin .append,args:=#[s,x],argTypes:=#[t,t] })
  (base:Nat) (e:TypeId) (i:TypeInfo) (z:Value) (bytes:Nat) (ht:P.underlying t=some (.slice e)) (hi:P.info? e=some i) (hz:i.zero=some z)
  (hsize:i.size=1) (hby:i.bytes=bytes) (hzs:z.cells.size=1) (v:Value) (n:Nat) (xs:List Value) (hs:a.eval s=v) (hown:w.ownsRow base e 1 v n xs)
  (ad:Addr) (c:Nat) (V:Value) (hx:a.eval x=.slice (some ad) 1 c) (hnews:∀ j u,[V][j]? = some u→w.cell? (ad.add j)=some u) (h1:∀ u∈[V],u.oneCell'=true)
  (h63:n+1≤maxLen) (hbytes:(n+1)*bytes≤140737488355328) (hbase:base≤w.heap.size)
  (h:∀ v' w',w'.ownsRow base e 1 v' (n+1) (xs++[V])→w.grownBy w' v.ownBlock→Qe6 w v v'→K (a.put o.dst v') w'):o.wp P a w K Q:=by
 obtain⟨v',w',hr,h2,h3,h4⟩:=Qcc (P:=P) w base t o.type e i z bytes ht hi hz hsize hby hzs v n xs hown ad c V hnews h1 h63 hbytes hbase
 unfold Oper.wp execOp
 simp only[ho,resolve,invoke,builtin,Sem.run_bind,Sem.run_pure,Result.andThen_ok,List.map_toArray,List.map_cons,List.map_nil,hs,hx,hr]
 exact h v' w' h2 h3 h4
theorem Qaa {P:Program}{w:World}{ops:Array Oper}{rest:List Oper}{o:Oper}{a:Act}{Q:Exit→Act→World→Prop}(hgd:o.guard=none)(s x:Operand)(t:TypeId)
  (ho:o.op=.call { callee:=.builtin .append,args:=#[s,x],argTypes:=#[t,t] })
  (base:Nat) (e:TypeId) (i:TypeInfo) (z:Value) (bytes:Nat) (ht:P.underlying t=some (.slice e)) (hi:P.info? e=some i) (hz:i.zero=some z)
  (hsize:i.size=1) (hby:i.bytes=bytes) (hzs:z.cells.size=1) (v:Value) (n:Nat) (xs:List Value) (hs:a.eval s=v) (hown:w.ownsRow base e 1 v n xs)
  (ad:Addr) (c:Nat) (V:Value) (hx:a.eval x=.slice (some ad) 1 c) (hnews:∀ j u,[V][j]? = some u→w.cell? (ad.add j)=some u) (h1:∀ u∈[V],u.oneCell'=true)
  (h63:n+1≤maxLen) (hbytes:(n+1)*bytes≤140737488355328) (hbase:base≤w.heap.size)
  (h:∀ v' w',w'.ownsRow base e 1 v' (n+1) (xs++[V])→w.grownBy w' v.ownBlock→Qe6 w v v'→wpList P ops Q rest (a.put o.dst v') w'):wpList P ops Q (o :: rest) a w :=
 wpList_plain hgd fun _ hK=>Qed w s x t ho base e i z bytes ht hi hz hsize hby hzs v n xs hs hown ad c V hx hnews h1 h63 hbytes hbase fun v' w' h2 h3 h4=>hK _ _ (h v' w' h2 h3 h4)
theorem below_append {w wr w':World}{e:TypeId}{v:Value}{n:Nat}{xs:List Value}(hb:Bw w wr)(ho:wr.ownsRow w.heap.size e 1 v n xs)(hg:wr.grownBy w' v.ownBlock):Bw w w' :=
 hb.grown hg hb.size fun g h=>(ho.lt g h).1
theorem Qes (a0:Option Addr)(n0 c0:Nat)(zs:List Int)(a1:Option Addr)(n1 c1:Nat)(w:World)
  (h0:Reads .i64 w a0 n0 zs) (h1:Reads .i64 w a1 n1 zs) :
  Calls Tryz.prog 14 #[.slice a0 n0 c0,.slice a1 n1 c1] w fun e w'=>e=.returned (.bool true)∧∃ m,w'=w.drewN m:=by
 obtain rfl:n0=n1:=h0.len.symm.trans h1.len
 have hm:=h0.max
 go_enter Tryz.func14,Tryz.ntmps14
 go_wp2
 go_loopw [5] (fun i wr=>∃ k:Nat,k≤n0∧i=I4 k∧∃ m,wr=w.drewN m) (fun i _=>n0-(intOf i).toNat)
 case atStart=>exact⟨0,Nat.zero_le _,rfl,0,rfl⟩
 case round =>
  obtain⟨k,hk,rfl,m,hw⟩:=hrel
  by_cases hlt:k<n0
  ·obtain⟨x,rfl⟩:=h0.some_ (by omega)
   obtain⟨y,rfl⟩:=h1.some_ (by omega)
   have cx:wr.cell? (x.add k)=some (I4 (zs.getD k 0)):=by rw[hw];exact h0.cell x rfl k hlt
   have cy:wr.cell? (y.add k)=some (I4 (zs.getD k 0)):=by rw[hw];exact h1.cell y rfl k hlt
   have Hw:Hid (wr=w.drewN m):=hw
   clear hw
   obtain⟨Z,eZ⟩:∃ Z,zs.getD k 0=Z:=⟨_,rfl⟩
   rw[eZ] at cx cy
   clear eZ
   go_wp2
   go_quiet (fail)
   go_wp2
   go_roundw
   case rel=>exact⟨k+1,by omega,by go_num,_,by rw[Hw.out,World.drewN_drewN]⟩
   case measure=>simp[intOf];omega
  ·have e:k=n0:=by omega
   subst e
   subst hw
   go_wp2
   go_ret
   exact⟨rfl,_,rfl⟩
theorem Qc2 {P:Program}{ops:Array Oper}{o:Oper}{a:Act}{w:World}{K:Act→World→Prop}{Q:Exit→Act→World→Prop}{E:Prop}
  (hg:o.guard=none) (f:FuncId) (x:Operand) (t:TypeId) (hop:o.op=Op.call { callee:=Callee.value (Operand.func f),args:=#[x],argTypes:=#[t] })
  (hrun:∀ args w,(callFunc f args).run P w=.ok (.enter f args) w) (u v:Value) (hu:a.eval x=u) (c:Calls P f #[u] w fun e w'=>e=.returned v∧w'=w) (hK:K (a.put o.dst v) w) :
  if Region.wanted o (yielded ops a.tmps)=true then Oper.wp P o a w K Q else E:=by
 have hw:Region.wanted o (yielded ops a.tmps)=true:=by simp[Region.wanted,hg]
 rw[if_pos hw]
 have e:(execOp a.eval o).run P w=.ok (.enter f #[u]) w:=by
  simp[execOp,hop,resolve,invoke,hu,Deferred.ofValue,hrun,show a.eval (.func f)=.func (.func f) #[] #[] from rfl]
 unfold Oper.wp
 rw[e]
 unfold Oper.upon
 refine c.mono ?_
 rintro e w' ⟨rfl,rfl⟩
 exact hK
theorem QeZ {P : Program} {f : FuncId} {fn : Func} {c : Code} (hf : P.funcs[f]? = some fn) (hname : (fn.name == "runtime.NumGoroutine") = false) (hb : fn.body = some c) (args : Array Value) (w : World) :
  (callFunc f args).run P w=.ok (.enter f args) w:=by
 have h1 : fn.name ≠ "runtime.NumGoroutine" := by simpa using hname
 simp[callFunc,hf,h1,hb]
theorem Qns:∀ args w,(callFunc 73 args).run Tryz.prog w=.ok (.enter 73 args) w:=QeZ Tryz.func73 (by decide) rfl
theorem Qnq:∀ args w,(callFunc 74 args).run Tryz.prog w=.ok (.enter 74 args) w:=QeZ Tryz.func74 (by decide) rfl
theorem Qnp:∀ args w,(callFunc 76 args).run Tryz.prog w=.ok (.enter 76 args) w:=QeZ Tryz.func76 (by decide) rfl
theorem Qfd {P:Program}{ops:Array Oper}{o:Oper}{a:Act}{w:World}{K:Act→World→Prop}{Q:Exit→Act→World→Prop}{E:Prop}
  (hg:o.guard=none) (f:FuncId) (x y:Operand) (t t':TypeId) (hop:o.op=Op.call { callee:=Callee.value (Operand.func f),args:=#[x,y],argTypes:=#[t,t'] })
  (hrun:∀ args w,(callFunc f args).run P w=.ok (.enter f args) w) (u u' v:Value) (hu:a.eval x=u) (hu':a.eval y=u') (c:Calls P f #[u,u'] w fun e w'=>e=.returned v∧w'=w) (hK:K (a.put o.dst v) w) :
  if Region.wanted o (yielded ops a.tmps)=true then Oper.wp P o a w K Q else E:=by
 have hw:Region.wanted o (yielded ops a.tmps)=true:=by simp[Region.wanted,hg]
 rw[if_pos hw]
 have e:(execOp a.eval o).run P w=.ok (.enter f #[u,u']) w:=by
  simp[execOp,hop,resolve,invoke,hu,hu',Deferred.ofValue,hrun,show a.eval (.func f)=.func (.func f) #[] #[] from rfl]
 unfold Oper.wp
 rw[e]
 unfold Oper.upon
 refine c.mono ?_
 rintro e w' ⟨rfl,rfl⟩
 exact hK
theorem Qeo {P:Program}{ops:Array Oper}{o:Oper}{a:Act}{w:World}{K:Act→World→Prop}{Q:Exit→Act→World→Prop}{E:Prop}
  (hg:o.guard=none) (s x:Operand) (t:TypeId) (hop:o.op=Op.call { callee:=Callee.builtin Builtin.append,args:=#[s,x],argTypes:=#[t,t] })
  (base:Nat) (e:TypeId) (i:TypeInfo) (z:Value) (size bytes:Nat) (ht:P.underlying t=some (.slice e)) (hi:P.info? e=some i) (hz:i.zero=some z)
  (hsize:i.size=size) (hby:i.bytes=bytes) (hzs:z.cells.size=size) (hsz:0<size)
  (v:Value) (n:Nat) (xs:List Value) (hs:a.eval s=v) (hown:w.ownsRow base e size v n xs)
  (ad:Addr) (m c:Nat) (news:List Value) (hx:a.eval x=.slice (some ad) m c) (hl:news.length=m*size) (hnews:∀ j u,news[j]? = some u→w.cell? (ad.add j)=some u) (h1:∀ u∈news,u.oneCell'=true)
  (h63:n+m≤maxLen) (hbytes:(n+m)*bytes≤140737488355328) (hbase:base≤w.heap.size)
  (h:∀ v' w',w'.ownsRow base e size v' (n+m) (xs++news)→w.grownBy w' v.ownBlock→K (a.put o.dst v') w') :
  if Region.wanted o (yielded ops a.tmps)=true then Oper.wp P o a w K Q else E:=by
 have hw:Region.wanted o (yielded ops a.tmps)=true:=by simp[Region.wanted,hg]
 rw[if_pos hw]
 exact wp_append_own w s x t hop base e i z size bytes ht hi hz hsize hby hzs hsz v n xs hs hown ad m c news hx hl hnews h1 h63 hbytes hbase fun v' w' h2 h3 _=>h v' w' h2 h3
theorem Qav {P:Program}{ops:Array Oper}{rest:List Oper}{o:Oper}{a:Act}{w:World}{Q:Exit→Act→World→Prop}(hw:Region.wanted o (yielded ops a.tmps)=true)(s x:Operand)(t:TypeId)
  (ho:o.op=.call { callee:=.builtin .append,args:=#[s,x],argTypes:=#[t,t] })
  (base:Nat) (e:TypeId) (i:TypeInfo) (z:Value) (bytes:Nat) (ht:P.underlying t=some (.slice e)) (hi:P.info? e=some i) (hz:i.zero=some z)
  (hsize:i.size=1) (hby:i.bytes=bytes) (hzs:z.cells.size=1)
  (v:Value) (n:Nat) (xs:List Value) (hs:a.eval s=v) (hown:w.ownsRow base e 1 v n xs)
  (k:IntKind) (ao:Option Addr) (m c:Nat) (zs:List Int) (hx:a.eval x=.slice ao m c) (hr:Reads k w ao m zs) (hc:ao=none→c=0)
  (h63:n+m≤maxLen) (hbytes:(n+m)*bytes≤140737488355328) (hbase:base≤w.heap.size)
  (h:∀ v' w',w'.ownsRow base e 1 v' (n+m) (xs++zs.map (Value.int k))→w.grownBy w' v.ownBlock→wpList P ops Q rest (a.put o.dst v') w'):wpList P ops Q (o :: rest) a w:=by
 refine wpList_step fun K hK=>?_
 rw[if_pos hw]
 cases ao with
 | none =>
  obtain rfl:=hc rfl
  have hm:m=0:=by
   by_cases h0:0<m
   ·obtain⟨x,hx⟩:=hr.some_ h0
    cases hx
   ·omega
  subst hm
  obtain rfl:=List.eq_nil_of_length_eq_zero hr.len
  have hrun:=run_append_owned_none (P:=P) (w:=w) base t o.type e i 1 ht hi v n xs hown
  unfold Oper.wp
  simp[execOp,ho,resolve,invoke,builtin,hs,hx,hrun,Result.andThen]
  exact hK _ _ (h v w (by simpa using hown) (World.grownBy.refl _ _))
 | some ad =>
  refine wp_append_own w s x t ho base e i z 1 bytes ht hi hz hsize hby hzs (by decide) v n xs hs hown ad m c (zs.map (Value.int k)) hx (by rw[List.length_map,hr.len];omega) (fun j u hu=>?_) (ints_oneCell _ _) h63 hbytes hbase fun v' w' h2 h3 _=>hK _ _ (h v' w' h2 h3)
  have hj:j<m:=by
   have:=(List.getElem?_eq_some_iff.1 hu).1
   rw[List.length_map,hr.len] at this
   exact this
  rw[hr.cell ad rfl j hj,←hu]
  simp[hr.len,hj]
theorem QbR (k:IntKind)(zs:List Int)(j:Nat)(h:j<zs.length):(zs.map (Value.int k))[j]? = some (.int k (zs.getD j 0)):=by
 simp[h]
theorem Qhd {k:IntKind}{e:TypeId}{w W w1:World}{m:Nat}{zs:List Int}{v:Value}(hb:Bw w W)(o:Obj)
  (ho:w1.ownsRow w.heap.size e 1 v (0+m) ([]++zs.map (Value.int k))) (hg:(W.alloc o).grownBy w1 (Value.slice (some ⟨W.heap.size,0,none⟩) 0 0).ownBlock) {a:Option Addr}{wz:World} (hr:Reads k wz a m zs) :
  ∃ a c,v=.slice a m c∧Reads k w1 a m zs∧Bw w w1∧(a=none→c=0)∧m≤c:=by
 simp only[Nat.zero_add,List.nil_append] at ho
 obtain⟨a',c',rfl,r⟩:=oRe ho hr.len hr.wf_mem (fun j hj=>QbR k zs j (by rw[hr.len];exact hj))
 have b1:=bNw hb o
 refine⟨a',c',rfl,r,b1.grown hg b1.size (fun g h=>?_),fun ha=>?_,?_⟩
 ·have:g=W.heap.size:=by simpa [Value.ownBlock] using h.symm
  rw[this]
  exact hb.size
 ·subst ha
  rcases ho.2 with⟨h,_⟩|⟨g,cap,cur,h,_⟩
  ·simp only[Value.slice.injEq] at h
   exact h.2.2
  ·simp at h
 ·rcases ho.2 with⟨h,_⟩|⟨g,cap,cur,h,_,_,hn,_⟩
  ·omega
  ·simp only[Value.slice.injEq] at h
   omega
theorem QlA {w w':World}(h:∃ o,w'=w.alloc o):Bw w w':=by
 obtain⟨o,rfl⟩:=h
 exact bNw bR o
theorem Reads.setOff {k:IntKind}{W:World}{a p:Addr}{n:Nat}{zs:List Int}(h:Reads k W (some a) n zs)(hp:p.block≠a.block)(v:Value):Reads k (W.setCell p v) (some a) n zs :=
 ⟨h.len,h.max,h.wf,h.some_,fun x hx i hi=>by
  obtain rfl:=Option.some.inj hx
  rw[World.cell?_setCell_other _ _ _ _ (fun e=>hp (by rw[e];unfold Addr.add;split<;>rfl))]
  exact h.cell a rfl i hi⟩
theorem Qmx {w W1:World}(hb:Below (w.alloc (.cells #[I4 0] 35)).heap.size (w.alloc (.cells #[I4 0] 35)) W1) :
  W1.cell? ⟨w.heap.size,0,none⟩=some (I4 0)∧W1.frozen? ⟨w.heap.size,0,none⟩=false∧Bw w W1:=by
 have hs:w.heap.size<(w.alloc (.cells #[I4 0] 35)).heap.size:=by simp
 refine⟨(hb.cell hs).trans (by rw[World.cell?_alloc_new];rfl),(hb.frozen hs).trans (by simp),?_⟩
 exact (bNw (bT w) _).trans (hb.mono (by omega))
def rnd (n:Int):Nat→Int→Int
 | 0,r=>r
 | k+1,r=>rnd n k (if (r+2 ^ k)*(r+2 ^ k)≤n then r+2 ^ k else r)
theorem QfH (n:Int):∀ (k:Nat) (r:Int),0≤r→r*r≤n→n<(r+2 ^ k)*(r+2 ^ k)→0≤rnd n k r∧rnd n k r*rnd n k r≤n∧n<(rnd n k r+1)*(rnd n k r+1)
 | 0,r,h0,h1,h2=>by
  unfold rnd
  exact⟨h0,h1,by simpa using h2⟩
 | k+1,r,h0,h1,h2=>by
  have p:(0:Int)<2 ^ k:=Int.pow_pos (by decide)
  rw[Int.pow_succ] at h2
  unfold rnd
  split
  ·rename_i h
   refine QfH n k _ (by omega) h ?_
   have e:r+2 ^ k+2 ^ k=r+2 ^ k*2:=by omega
   rw[e];exact h2
  ·rename_i h
   exact QfH n k _ h0 h1 (by omega)
def Qd2 (n:Int):Int:=rnd n 25 0
theorem Qjb (n:Int)(h0:0≤n)(h1:n≤281474976710656):0≤Qd2 n∧Qd2 n*Qd2 n≤n∧n<(Qd2 n+1)*(Qd2 n+1) :=
 QfH n 25 0 (by decide) (by omega) (by omega)
theorem Qgl (a:Int)(h0:0≤a)(h1:a≤33554432):0≤a*a∧a*a≤1125899906842624:=by
 refine⟨Int.mul_nonneg h0 h0,?_⟩
 have:=Int.mul_le_mul h1 h1 h0 (by decide)
 omega
theorem root_call (n:Int)(h0:0≤n)(h1:n≤281474976710656)(w:World) :
  Calls Tryz.prog 124 #[I4 n] w fun e w'=>e=.returned (I4 (Qd2 n))∧w'=w:=by
 unfold Qd2
 obtain⟨R,eR⟩:∃ R,rnd n 25 0=R:=⟨_,rfl⟩
 rw[eR]
 have ER:Hid (rnd n 25 0=R):=eR
 clear eR
 go_enter Tryz.func124,Tryz.ntmps124
 go_wp2
 go_loop [3,4] (fun v b=>∃ (k:Nat) (r:Int),v=I4 r∧b=I4 (2 ^ k/2)∧0≤r∧r+2*(2 ^ k/2)≤33554432∧rnd n k r=R) (fun _ b=>(intOf b).toNat)
 case atStart=>exact⟨25,0,rfl,rfl,by decide,by decide,ER.out⟩
 case round =>
  obtain⟨k,r,rfl,rfl,r0,r1,er⟩:=hrel
  cases k with
  | zero =>
   have e:(2:Int) ^ 0/2=0:=by decide
   rw[e]
   clear r1 ER
   have E:Hid (rnd n 0 r=R):=er
   clear er
   go_wp2
   go_ret
   exact⟨QaE E.out,rfl⟩
  | succ k =>
   have e:(2:Int) ^ (k+1)/2=2 ^ k:=by rw[Int.pow_succ];omega
   have p:(0:Int)<2 ^ k:=Int.pow_pos (by decide)
   have er':rnd n k (if (r+2 ^ k)*(r+2 ^ k)≤n then r+2 ^ k else r)=R:=er
   rw[e] at r1 ⊢
   clear er e
   have sq:=Qgl (r+2 ^ k) (by omega) (by omega)
   have E:Hid (rnd n k (if (r+2 ^ k)*(r+2 ^ k)≤n then r+2 ^ k else r)=R):=er'
   clear er'
   obtain⟨B,eB⟩:∃ B,(2:Int) ^ k=B:=⟨_,rfl⟩
   rw[eB] at r1 p sq ⊢
   have EB:Hid ((2:Int) ^ k=B):=eB
   clear eB
   obtain⟨sq0,sq1⟩:=sq
   go_wp2
   ·have h:(r+B)*(r+B)≤n:=by assumption
    go_round
    case rel =>
     have b:=EB.out
     have e:=E.out
     rw[b,if_pos h] at e
     exact⟨k,r+B,rfl,by rw[b],by omega,by rw[b];omega,e⟩
    case measure=>simp only[intOf];omega
   ·have h:¬(r+B)*(r+B)≤n:=by omega
    go_round
    case rel =>
     have b:=EB.out
     have e:=E.out
     rw[b,if_neg h] at e
     exact⟨k,r,rfl,by rw[b],by omega,by rw[b];omega,e⟩
    case measure=>simp only[intOf];omega
def Qbe (x:Int):Int:=if cZ x<1 then 2147483647 else Qd2 (281474976710656/cZ x)
theorem QcR (c:Int)(h:1≤c):0≤281474976710656/c∧281474976710656/c≤281474976710656 :=
 ⟨Int.ediv_nonneg (by decide) (by omega),Int.ediv_le_self _ (by decide)⟩
theorem Qfl (x:Int)(w:World) :
  Calls Tryz.prog 101 #[I4 x] w fun e w'=>e=.returned (I4 (Qbe x))∧w'=w:=by
 have cb:=cZb x
 unfold Qbe
 obtain⟨c,ec⟩:∃ c,cZ x=c:=⟨_,rfl⟩
 rw[ec] at cb ⊢
 obtain⟨c0,c1⟩:=cb
 by_cases k:c<1
 ·rw[if_pos k]
  go_enter Tryz.func101,Tryz.ntmps101
  go_wp2_with (first|(go_at_call 114;refine (cCa _ _).mono ?_;rintro e w' ⟨rfl,rfl⟩)|(go_at_call 124;refine (root_call _ (by omega) (by omega) _).mono ?_;rintro e w' ⟨rfl,rfl⟩))
  all_goals go_ret
  all_goals exact⟨rfl,rfl⟩
 ·rw[if_neg k]
  obtain⟨q0,q1⟩:=QcR c (by omega)
  go_enter Tryz.func101,Tryz.ntmps101
  go_wp2_with (first|(go_at_call 114;refine (cCa _ _).mono ?_;rintro e w' ⟨rfl,rfl⟩)|(go_at_call 124;refine (root_call _ (by omega) (by omega) _).mono ?_;rintro e w' ⟨rfl,rfl⟩))
  all_goals go_ret
  all_goals exact⟨rfl,rfl⟩
theorem QiU (a0:Option Addr)(d c0:Nat)(a1:Option Addr)(n c1:Nat)(A:Nat→Option Addr)(C:Nat→Nat)(K:Nat→List Int)(a2:Option Addr)(c2:Nat)(A':Nat→Option Addr)(C':Nat→Nat)(V:Nat→List Int)(w:World)
  (h1:Grid w a1 n A C K) (h2:Grid w a2 n A' C' V) (hd:0<d) (hn:0<n) (hr:∀ r,r<n→(K r).length=d∧(V r).length=d) :
  Calls Tryz.prog 96 #[.slice a0 d c0,.slice a1 n c1,.slice a2 n c2] w fun e w'=>e=.returned (.bool true)∧w'=w:=by
 have hm:=h1.max
 have zd:((d:Int)==0)=false:=by simp;omega
 have zn:((n:Int)==0)=false:=by simp;omega
 obtain⟨x,rfl⟩:=h1.some_ hn
 obtain⟨y,rfl⟩:=h2.some_ hn
 have c1':=fun k (hk:k<n)=>(hr k hk).1 ▸ h1.cell x rfl k hk
 have c2':=fun k (hk:k<n)=>(hr k hk).2 ▸ h2.cell y rfl k hk
 clear h1 h2 hr
 go_enter Tryz.func96,Tryz.ntmps96
 go_wp2
 go_loopw [25] (fun i wr=>∃ k:Nat,k≤n∧i=I4 k∧wr=w) (fun i _=>n-(intOf i).toNat)
 case atStart=>exact⟨0,Nat.zero_le _,rfl,rfl⟩
 case round =>
  obtain⟨k,hk,rfl,hw⟩:=hrel
  subst hw
  by_cases hlt:k<n
  ·have cx:=c1' k hlt
   have cy:=c2' k hlt
   clear c1' c2'
   go_wp2
   go_roundw
   case rel=>exact⟨k+1,by omega,by go_num,trivial⟩
   case measure=>simp[intOf];omega
  ·have e:k=n:=by omega
   subst e
   go_wp2
   go_ret
   exact⟨rfl,rfl⟩
theorem QmN (n:Int):(n.tmod 16+16).tmod 16=n%16∧-16<n.tmod 16∧n.tmod 16<16:=by
 have a:=Int.tmod_eq_emod (a:=n) (b:=16)
 have b:-16<n.tmod 16∧n.tmod 16<16:=by
  rw[a];split<;>omega
 refine⟨?_,b⟩
 rw[Int.tmod_eq_emod_of_nonneg (by omega),a]
 split<;>omega
theorem Qfp (n:Int)(w:World) :
  Calls Tryz.prog 154 #[I4 n] w fun e w'=>e=.returned (I4 (QaJ n))∧w'=w:=by
 obtain⟨b,c,d⟩:=QmN n
 have e:Hid ((n.tmod 16+16).tmod 16=n%16):=b
 clear b
 go_enter Tryz.func154,Tryz.ntmps154
 go_wp2
 all_goals go_ret
 all_goals (refine⟨QaE ?_,rfl⟩;unfold QaJ;have b:=e.out;rw[Int.tmod_eq_emod_of_nonneg (by omega)] at b;exact b)
theorem QmA (n:Int)(w:World) :
  Calls Tryz.prog 146 #[I4 n] w fun e w'=>e=.returned (I4 (cosZ n))∧Bw w w':=by
 have p0:0≤QaJ n∧QaJ n<16:=by unfold QaJ;omega
 unfold cosZ
 generalize hp:QaJ n=p at *
 go_enter Tryz.func146,Tryz.ntmps146
 go_wp2_with (go_at_call 154;refine (Qfp _ _).mono ?_;rintro e w' ⟨rfl,rfl⟩)
 go_ret
 exact⟨QfE tabC _ _,bNw (bT w) _⟩
theorem QlW (n:Int)(w:World) :
  Calls Tryz.prog 147 #[I4 n] w fun e w'=>e=.returned (I4 (sinZ n))∧Bw w w':=by
 have p0:0≤QaJ n∧QaJ n<16:=by unfold QaJ;omega
 unfold sinZ
 generalize hp:QaJ n=p at *
 go_enter Tryz.func147,Tryz.ntmps147
 go_wp2_with (go_at_call 154;refine (Qfp _ _).mono ?_;rintro e w' ⟨rfl,rfl⟩)
 go_ret
 exact⟨QfE tabS _ _,bNw (bT w) _⟩
theorem QcB (n:Int)(w:World) :
  Calls Tryz.prog 141 #[I4 n] w fun e w'=>e=.returned (I4 (QaJ n))∧w'=w:=by
 obtain⟨b,c,d⟩:=QmN n
 have e:Hid ((n.tmod 16+16).tmod 16=n%16):=b
 clear b
 go_enter Tryz.func141,Tryz.ntmps141
 go_wp2
 all_goals go_ret
 all_goals (refine⟨QaE ?_,rfl⟩;unfold QaJ;have b:=e.out;rw[Int.tmod_eq_emod_of_nonneg (by omega)] at b;exact b)
theorem Qh2 (n:Int)(w:World) :
  Calls Tryz.prog 125 #[I4 n] w fun e w'=>e=.returned (I4 (cosZ n))∧Bw w w':=by
 have p0:0≤QaJ n∧QaJ n<16:=by unfold QaJ;omega
 unfold cosZ
 generalize hp:QaJ n=p at *
 go_enter Tryz.func125,Tryz.ntmps125
 go_wp2_with (go_at_call 141;refine (QcB _ _).mono ?_;rintro e w' ⟨rfl,rfl⟩)
 go_ret
 exact⟨QfE tabC _ _,bNw (bT w) _⟩
theorem QhU (n:Int)(w:World) :
  Calls Tryz.prog 126 #[I4 n] w fun e w'=>e=.returned (I4 (sinZ n))∧Bw w w':=by
 have p0:0≤QaJ n∧QaJ n<16:=by unfold QaJ;omega
 unfold sinZ
 generalize hp:QaJ n=p at *
 go_enter Tryz.func126,Tryz.ntmps126
 go_wp2_with (go_at_call 141;refine (QcB _ _).mono ?_;rintro e w' ⟨rfl,rfl⟩)
 go_ret
 exact⟨QfE tabS _ _,bNw (bT w) _⟩
theorem QmK (s:Int):shN s 62=(s/2305843009213693952+1)/2:=by unfold shN;rfl
theorem rCc (x:Int)(w:World) :
  Calls Tryz.prog 73 #[I4 x] w fun e w'=>e=.returned (I4 (cZ x))∧w'=w:=by
 go_enter Tryz.func73,Tryz.ntmps73
 go_wp2
 all_goals (go_ret;refine⟨QaE ?_,rfl⟩;unfold cZ;repeat' split)
 all_goals (try split at *)
 all_goals omega
theorem refShift_call (x n:Int)(hx:(Lit.int .i64 x).wf=true)(hn:(Lit.int .i64 n).wf=true)(w:World) :
  Calls Tryz.prog 74 #[I4 x,I4 n] w fun e w'=>e=.returned (I4 (Qac x n))∧w'=w:=by
 have bx:=bounds_i64 hx
 have bn:=bounds_i64 hn
 by_cases n0:n≤0
 ·have e:Qac x n=x:=by unfold Qac;rw[if_pos n0]
  rw[e]
  go_enter Tryz.func74,Tryz.ntmps74
  go_wp2
  all_goals go_ret
  all_goals exact⟨rfl,rfl⟩
 ·by_cases x0:x<0
  ·have e:Qac x n = -(shN (-x) (min n 62)):=by unfold Qac;rw[if_neg n0,if_pos x0]
   rw[e]
   have e1:-(x+1)+1 = -x:=by omega
   by_cases n1:62≤n
   ·have em:min n 62=62:=by omega
    rw[em,QmK];clear e em
    by_cases p:-x/2305843009213693952%2=1
    ·have p':(-x/2305843009213693952%2==1)=true:=by simp[p]
     go_enter Tryz.func74,Tryz.ntmps74
     go_wp2
     all_goals go_ret
     all_goals (refine⟨QaE ?_,rfl⟩;omega)
    ·have p':(-x/2305843009213693952%2==1)=false:=by simp[p]
     go_enter Tryz.func74,Tryz.ntmps74
     go_wp2
     all_goals go_ret
     all_goals (refine⟨QaE ?_,rfl⟩;omega)
   ·have em:min n 62=n:=by omega
    rw[em];clear e em
    have b1:=Qa8 (-x) (n.toNat-1) (by omega)
    have b2:=Qa8 (-x) n.toNat (by omega)
    have b3:=Qf9 (-x) n (by omega)
    have b4:-x/2 ^ n.toNat≤4611686018427387904:=by omega
    have B:Hid (-x/2 ^ n.toNat = -x/2 ^ (n.toNat-1)/2):=b3
    clear b3
    by_cases p:-x/2 ^ (n.toNat-1)%2=1
    ·have p':(-x/2 ^ (n.toNat-1)%2==1)=true:=by simp[p]
     go_enter Tryz.func74,Tryz.ntmps74
     go_wp2
     all_goals go_ret
     all_goals (refine⟨QaE ?_,rfl⟩;have b:=B.out;unfold shN;omega)
    ·have p':(-x/2 ^ (n.toNat-1)%2==1)=false:=by simp[p]
     go_enter Tryz.func74,Tryz.ntmps74
     go_wp2
     all_goals go_ret
     all_goals (refine⟨QaE ?_,rfl⟩;have b:=B.out;unfold shN;omega)
  ·have e:Qac x n=shN x (min n 62):=by unfold Qac;rw[if_neg n0,if_neg x0]
   rw[e]
   by_cases n1:62≤n
   ·have em:min n 62=62:=by omega
    rw[em,QmK];clear e em
    by_cases p:x/2305843009213693952%2=1
    ·have p':(x/2305843009213693952%2==1)=true:=by simp[p]
     go_enter Tryz.func74,Tryz.ntmps74
     go_wp2
     all_goals go_ret
     all_goals (refine⟨QaE ?_,rfl⟩;omega)
    ·have p':(x/2305843009213693952%2==1)=false:=by simp[p]
     go_enter Tryz.func74,Tryz.ntmps74
     go_wp2
     all_goals go_ret
     all_goals (refine⟨QaE ?_,rfl⟩;omega)
   ·have em:min n 62=n:=by omega
    rw[em];clear e em
    have b1:=Qa8 x (n.toNat-1) (by omega)
    have b2:=Qa8 x n.toNat (by omega)
    have b3:=Qf9 x n (by omega)
    have b4:x/2 ^ n.toNat≤4611686018427387904:=by omega
    have B:Hid (x/2 ^ n.toNat=x/2 ^ (n.toNat-1)/2):=b3
    clear b3
    by_cases p:x/2 ^ (n.toNat-1)%2=1
    ·have p':(x/2 ^ (n.toNat-1)%2==1)=true:=by simp[p]
     go_enter Tryz.func74,Tryz.ntmps74
     go_wp2
     all_goals go_ret
     all_goals (refine⟨QaE ?_,rfl⟩;have b:=B.out;unfold shN;omega)
    ·have p':(x/2 ^ (n.toNat-1)%2==1)=false:=by simp[p]
     go_enter Tryz.func74,Tryz.ntmps74
     go_wp2
     all_goals go_ret
     all_goals (refine⟨QaE ?_,rfl⟩;have b:=B.out;unfold shN;omega)
theorem refMul_call (a b:Int)(ha:(Lit.int .i64 a).wf=true)(hb:(Lit.int .i64 b).wf=true)(w:World) :
  Calls Tryz.prog 76 #[I4 a,I4 b] w fun e w'=>e=.returned (I4 (mulZ a b))∧w'=w:=by
 go_enter Tryz.func76,Tryz.ntmps76
 go_wp2_with (first|(go_at_call 73;refine (rCc _ _).mono ?_;rintro e w' ⟨rfl,rfl⟩)|(go_at_call 74;refine (refShift_call _ _ (wrap64_wf _) (by decide) _).mono ?_;rintro e w' ⟨rfl,rfl⟩))
 go_ret
 exact⟨rfl,rfl⟩
theorem refDiv_call (a b:Int)(ha:(Lit.int .i64 a).wf=true)(hb:(Lit.int .i64 b).wf=true)(w:World) :
  Calls Tryz.prog 143 #[I4 a,I4 b] w fun e w'=>e=.returned (I4 (divZ a b))∧w'=w:=by
 have ba:=cZb a
 have bb:=cZb b
 by_cases z:cZ b=0
 ·have e:divZ a b=Qb6 (cZ a):=by unfold divZ;rw[if_pos z]
  rw[e];clear e
  have z':(cZ b==0)=true:=by simp[z]
  clear z
  go_enter Tryz.func143,Tryz.ntmps143
  go_wp2_with (first|(go_at_call 73;refine (rCc _ _).mono ?_;rintro e w' ⟨rfl,rfl⟩))
  all_goals (go_ret;refine⟨QaE ?_,rfl⟩;unfold Qb6;repeat' split)
  all_goals omega
 ·have e:divZ a b=cZ (wrap64 ((cZ a*65536).tdiv (cZ b))):=by unfold divZ;rw[if_neg z]
  rw[e];clear e
  have z':(cZ b==0)=false:=by simp[z]
  go_enter Tryz.func143,Tryz.ntmps143
  go_wp2_with (first|(go_at_call 73;refine (rCc _ _).mono ?_;rintro e w' ⟨rfl,rfl⟩))
  go_ret
  exact⟨rfl,rfl⟩
theorem Qei:∀ args w,(callFunc 73 args).run Tryz.prog w=.ok (.enter 73 args) w:=QeZ Tryz.func73 (by decide) rfl
end Go.Proofs.YthliomlmhfjhnaaGreat

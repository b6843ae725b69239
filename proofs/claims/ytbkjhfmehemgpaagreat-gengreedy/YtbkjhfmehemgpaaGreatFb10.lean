/- Texts put together. -/
import Derived.Test.YtbkjhfmehemgpaaGreatFb1
import Derived.Test.YtbkjhfmehemgpaaGreatFb3
import Derived.Test.YtbkjhfmehemgpaaGreatFb5
import Derived.Laws.Rows
namespace Go.Proofs.YtbkjhfmehemgpaaGreat
set_option maxRecDepth 20000
set_option maxHeartbeats 16000000
open Go.ChangeShapes Go.WideShapes Go.ChangeAt Go.RowKit
set_option linter.unusedVariables false
set_option linter.unusedSimpArgs false
structure Bm where
 t:List Int
 s:Int
 f:Bool
def b0:Bm:=⟨[],0,false⟩
structure Cd where
 p:Nat
 k:Int
 s:Int
 f:Bool
def c0:Cd:=⟨0,-1,0,false⟩
def liveTo (L:Nat→Bm):Nat→Nat
 | 0=>0
 | i+1=>liveTo L i+(if (L i).f=true then 0 else 1)
theorem liveTo_le (L:Nat→Bm)(i:Nat):liveTo L i≤i:=by
 induction i with
 | zero=>exact Nat.le_refl _
 | succ i ih=>unfold liveTo;split<;>omega
theorem liveTo_mono (L : Nat → Bm) {i j : Nat} (h : i ≤ j) : liveTo L i ≤ liveTo L j := by
  induction j with
  | zero => obtain rfl : i = 0 := by omega
            exact Nat.le_refl _
  | succ j ih =>
    by_cases e : i = j + 1
    · subst e; exact Nat.le_refl _
    · have := ih (by omega)
      show _ ≤ liveTo L j + _
      omega
theorem liveTo_live (L:Nat→Bm){i n:Nat}(hi:i<n)(hf:(L i).f=false):liveTo L i<liveTo L n:=by
 have h1:liveTo L (i+1)=liveTo L i+1:=by
  show liveTo L i+_=_
  rw[hf];rfl
 have:=liveTo_mono L (show i+1≤n by omega)
 omega
def topTo (row:List Int):Nat→Int
 | 0=>-2147483648
 | n+1=>max (topTo row n) (cZ (row.getD n 0))
def topC (row:List Int):Int:=topTo row row.length
theorem topTo_bounds (row:List Int)(n:Nat):-2147483648≤topTo row n∧topTo row n≤2147483647:=by
 induction n with
 | zero=>unfold topTo;omega
 | succ n ih=>have:=cZb (row.getD n 0);unfold topTo;omega
theorem topTo_le (row:List Int){i n:Nat}(h:i<n):cZ (row.getD i 0)≤topTo row n:=by
 induction n with
 | zero=>omega
 | succ n ih =>
  unfold topTo
  by_cases e:i=n
  ·subst e;omega
  ·have:=ih (by omega);omega
def lossZ (row:List Int)(i:Nat):Int:=cZ (cZ (row.getD i 0)-topC row)
theorem lossZ_le (row:List Int){i:Nat}(h:i<row.length):lossZ row i≤0:=by
 have h1:=topTo_le row h
 have h2:=cZb (row.getD i 0)
 unfold lossZ topC cZ at *
 omega
def grownTo (b:Bm)(p:Nat)(row:List Int)(len stop:Int)(n:Nat):List Cd :=
 (List.range n).map fun (i:Nat)=>⟨p,(i:Int),cZ (cZ b.s+lossZ row i),decide (len≤(b.t.length:Int)+1) || decide ((i:Int)=stop)⟩
theorem grownTo_succ (b:Bm)(p:Nat)(row:List Int)(len stop:Int)(n:Nat):grownTo b p row len stop (n+1)=grownTo b p row len stop n++[⟨p,(n:Int),cZ (cZ b.s+lossZ row n),decide (len≤(b.t.length:Int)+1) || decide ((n:Int)=stop)⟩]:=by
 simp[grownTo,List.range_succ]
theorem grownTo_length (b:Bm)(p:Nat)(row:List Int)(len stop:Int)(n:Nat):(grownTo b p row len stop n).length=n:=by simp[grownTo]
def candOf (L:Nat→Bm)(R:Nat→List Int)(len stop:Int)(i:Nat):List Cd :=
 if (L i).f=true then [⟨i,-1,(L i).s,true⟩] else grownTo (L i) i (R (liveTo L i)) len stop (R (liveTo L i)).length
def candTo (L:Nat→Bm)(R:Nat→List Int)(len stop:Int):Nat→List Cd
 | 0=>[]
 | i+1=>candTo L R len stop i++candOf L R len stop i
theorem candOf_mem {L:Nat→Bm}{R:Nat→List Int}{len stop:Int}{i:Nat}{c:Cd}(h:c∈candOf L R len stop i):c.p=i ∧
  (((L i).f=true∧c=⟨i,-1,(L i).s,true⟩)∨((L i).f=false∧∃ j,j<(R (liveTo L i)).length∧c=⟨i,(j:Int),cZ (cZ (L i).s+lossZ (R (liveTo L i)) j),decide (len≤((L i).t.length:Int)+1) || decide ((j:Int)=stop)⟩)):=by
 unfold candOf at h
 split at h
 ·rename_i hf
  obtain rfl:=List.mem_singleton.1 h
  exact⟨rfl,.inl ⟨hf,rfl⟩⟩
 ·rename_i hf
  obtain⟨j,hj,e⟩:=List.mem_map.1 h
  subst e
  exact⟨rfl,.inr ⟨by simpa using hf,j,List.mem_range.1 hj,rfl⟩⟩
theorem candTo_mem {L:Nat→Bm}{R:Nat→List Int}{len stop:Int}{n:Nat}{c:Cd}(h:c∈candTo L R len stop n):c.p<n∧c∈candOf L R len stop c.p:=by
 induction n with
 | zero=>cases h
 | succ n ih =>
  rcases List.mem_append.1 h with h|h
  ·have:=ih h;exact⟨by omega,this.2⟩
  ·have e:=(candOf_mem h).1
   exact⟨by omega,by rw[e];exact h⟩
theorem candOf_count (L:Nat→Bm)(R:Nat→List Int)(len stop:Int)(i K:Nat)(h:(R (liveTo L i)).length≤K∨(L i).f=true)(hK:1≤K):(candOf L R len stop i).length≤K:=by
 unfold candOf
 split
 ·simpa using hK
 ·rename_i hf
  rw[grownTo_length]
  rcases h with h|h
  ·exact h
  ·exact absurd h hf
theorem candTo_count (L:Nat→Bm)(R:Nat→List Int)(len stop:Int)(n K:Nat)(h:∀ i,i<n→(L i).f=false→(R (liveTo L i)).length≤K)(hK:1≤K):(candTo L R len stop n).length≤n*K:=by
 induction n with
 | zero=>simp[candTo]
 | succ n ih =>
  have h1:=ih fun i hi=>h i (by omega)
  have h2:=candOf_count L R len stop n K (by cases e:(L n).f with|true=>exact .inr rfl|false=>exact .inl (h n (by omega) e)) hK
  rw[candTo,List.length_append,Nat.add_mul]
  omega
def wholeZ (L:Nat→Bm)(c:Cd):Bm:=⟨(L c.p).t++(if c.k = -1 then [] else [c.k]),c.s,c.f⟩
def befitB (L:Nat→Bm)(n:Nat)(R:Nat→List Int)(m:Nat):Bool:=decide (0<n) && decide (m=liveTo L n) && (List.range m).all fun r=>decide (0<(R r).length)
def growE (L:Nat→Bm)(n:Nat)(R:Nat→List Int)(m:Nat)(width:Int):Int :=
 if width<1∨4<width then 20 else if befitB L n R m=true then 0 else 21
def bescoresZ (cs:List Cd):List Int:=cs.map Cd.s
def bestZ (cs:List Cd)(width:Int):List Cd:=((places (bescoresZ cs)).take width.toNat).map fun i=>cs.getD i c0
def growL (L:Nat→Bm)(n:Nat)(R:Nat→List Int)(m:Nat)(width len stop:Int):List Cd :=
 if growE L n R m width=0 then bestZ (candTo L R len stop n) width else []
def growB (L:Nat→Bm)(G:List Cd)(i:Nat):Bm:=wholeZ L (G.getD i c0)
def growP (G:List Cd):List Int:=G.map fun c=>(c.p:Int)
theorem bestZ_length (cs:List Cd)(width:Int):(bestZ cs width).length=min width.toNat cs.length:=by simp[bestZ,places_length,bescoresZ]
theorem bestZ_at (cs:List Cd)(width:Int){i:Nat}(h:i<min width.toNat cs.length):(bestZ cs width).getD i c0=cs.getD ((places (bescoresZ cs)).getD i 0) c0:=by
 have h1:i<width.toNat:=by omega
 have h2:i<(places (bescoresZ cs)).length:=by rw[places_length];simp[bescoresZ];omega
 simp[bestZ,List.getD,h1,h2]
theorem place_lt (cs:List Cd){i:Nat}(h:i<cs.length):(places (bescoresZ cs)).getD i 0<cs.length:=by
 have:=(places_ordered (bescoresZ cs)).lt (m:=i) (by simp[bescoresZ];exact h)
 simpa [bescoresZ] using this
theorem getD_mem {cs:List Cd}{i:Nat}(h:i<cs.length):cs.getD i c0∈cs:=by
 have:cs.getD i c0=cs[i]:=by simp[List.getD,h]
 rw[this]
 exact List.getElem_mem h
theorem scores_at (cs:List Cd){i:Nat}(h:i<cs.length):(bescoresZ cs).getD i 0=(cs.getD i c0).s:=by simp[bescoresZ,List.getD,h]
def finalZ (b:Bm)(p:Int):Int:=divZ b.s (65536+4096*(min 64 (max 0 p))*(min 1000 (b.t.length:Int)))
def finals (L:Nat→Bm)(n:Nat)(p:Int):List Int:=(List.range n).map fun i=>finalZ (L i) p
structure Chg (G:Nat→World→Nat→Prop) (k:Option Nat) (u u':World):Prop where
 os:u'.os=u.os
 tape:u'.tape=u.tape
 output:u'.output=u.output
 size:u.heap.size≤u'.heap.size
 block:∀ b,b<u.heap.size→(∀ s,G s u b→k=some s)→u'.heap[b]? = u.heap[b]?
 typ:∀ (b:Nat) (cs:Array Value) (t:TypeId) (fr:Nat × Nat),u.heap[b]? = some (Obj.cells cs t fr)→∃ cs',u'.heap[b]? = some (Obj.cells cs' t fr)∧cs'.size=cs.size
structure But (g:Nat) (u u':World):Prop where
 os:u'.os=u.os
 tape:u'.tape=u.tape
 output:u'.output=u.output
 size:u.heap.size≤u'.heap.size
 block:∀ b,b<u.heap.size→b≠g→u'.heap[b]? = u.heap[b]?
 typ:∀ (cs:Array Value) (t:TypeId) (fr:Nat × Nat),u.heap[g]? = some (Obj.cells cs t fr)→∃ cs',u'.heap[g]? = some (Obj.cells cs' t fr)∧cs'.size=cs.size
def chg (G:Nat→World→Nat→Prop)(s:Option Nat)(u u':World):Prop :=
 match s with
 | none=>Below u.heap.size u u'
 | some k=>∃ g,G k u g∧But g u u'
structure EntR (G:Nat→World→Nat→Prop) where
 f:Value→World→Prop
 s:Option Nat:=none
 st:∀ v u u',Chg G s u u'→f v u→f v u'
def EntR.eq {G:Nat→World→Nat→Prop}(v:Value):EntR G:=⟨fun q _=>q=v,none,fun _ _ _ _ h=>h⟩
def EntR.any {G:Nat→World→Nat→Prop}:EntR G:=⟨fun _ _=>True,none,fun _ _ _ _ _=>trivial⟩
abbrev noG:Nat→World→Nat→Prop:=fun _ _ _=>False
abbrev Ent:=EntR noG
def Ent.eq (v:Value):Ent:=EntR.eq v
def Ent.any:Ent:=EntR.any
def Ent.of (f:Value→World→Prop)(st:∀ v u u',Below u.heap.size u u'→f v u→f v u'):Ent:=⟨f,none,fun v u u' h=>st v u u' ⟨h.os,h.tape,h.output,h.size,fun b hb=>h.block b hb fun _ e=>e.elim⟩⟩
theorem below_typ {u u':World}(h:Below u.heap.size u u'):∀ (b:Nat) (cs:Array Value) (t:TypeId) (fr:Nat × Nat),u.heap[b]? = some (Obj.cells cs t fr)→∃ cs',u'.heap[b]? = some (Obj.cells cs' t fr)∧cs'.size=cs.size:=fun b cs t fr e=>⟨cs,(h.block b (Array.getElem?_eq_some_iff.1 e).1).trans e,rfl⟩
theorem chg_to {G:Nat→World→Nat→Prop}{s r:Option Nat}{u u':World}(h:chg G s u u')(hne:∀ k g,s=some k→G k u g→r≠some k):Chg G r u u':=by
 cases s with
 | none=>exact⟨h.os,h.tape,h.output,h.size,fun b hb _=>h.block b hb,below_typ h⟩
 | some k =>
  obtain⟨g,hg,hb⟩:=h
  refine⟨hb.os,hb.tape,hb.output,hb.size,fun b hlt hs=>hb.block b hlt fun e=>hne k g rfl hg (hs k (by rw[e];exact hg)),fun b cs t fr e=>?_⟩
  by_cases hbg:b=g
  ·subst hbg
   exact hb.typ cs t fr e
  ·exact⟨cs,(hb.block b (Array.getElem?_eq_some_iff.1 e).1 hbg).trans e,rfl⟩
def okStores {G:Nat→World→Nat→Prop}:List (EntR G)→Bool
 | []=>true
 | E :: T=>(match E.s with|none=>true|some k=>T.all fun F=>F.s != some k) && okStores T
theorem stores_ne {G:Nat→World→Nat→Prop}:∀ (T:List (EntR G)),okStores T=true→∀ i j,i≠j→∀ k g,(T.getD j EntR.any).s=some k→(∃ u,G k u g)→(T.getD i EntR.any).s≠some k
 | [],_,i,j,_,k,g,h,_=>by simp[EntR.any] at h
 | E :: T,h,i,j,hij,k,g,hk,hg=>by
  unfold okStores at h
  rw[Bool.and_eq_true] at h
  have hd:∀ n:Nat,E.s=some k→(T.getD n EntR.any).s≠some k:=by
   intro n he
   rw[he] at h
   by_cases hn:n<T.length
   ·have:=List.all_eq_true.1 h.1 _ (List.getElem_mem hn)
    simpa [List.getD,hn] using this
   ·simp[List.getD,Nat.le_of_not_lt hn,EntR.any]
  match i,j with
  | 0,0=>exact absurd rfl hij
  | 0,j+1=>exact fun e=>hd j e (by simpa using hk)
  | i+1,0=>exact hd i (by simpa using hk)
  | i+1,j+1=>simpa using stores_ne T h.2 i j (by omega) k g (by simpa using hk) hg
def opWaits (o:Oper)(j:Nat):Bool:=o.after.toList.any fun e=>e.on==j && Region.binds .any e
def slotOf (ops:Array Oper)(j:Nat):Option Tmp:=(ops[j]?).bind (·.dst)
def srcOf (ops:Array Oper)(o:Oper)(s:Tmp):Option Nat:=(List.range ops.size).find? fun j=>slotOf ops j==some s && opWaits o j
def addrOf (o:Oper):Option Tmp:=match o.op with|.store _ (.tmp x) _=>some x|_=>none
def valA (b:Act)(o:Oper):Value:=match addrOf o with|some x=>b.tmps.getD x undef|none=>undef
def okAdr (ops:Array Oper):Bool :=
 (List.range ops.size).all fun i=>(List.range ops.size).all fun j =>
  match ops[i]?,ops[j]? with
  | some o,some o'=>(match addrOf o with|some x=>o'.dst != some x || opWaits o j|none=>true)
  | _,_=>true
def okTab (ops:Array Oper):Bool :=
 lowB ops && (List.range ops.size).all fun i=>(List.range ops.size).all fun j =>
  match ops[i]?,ops[j]? with
  | some o,some o'=>(o'.dst.all fun d=>(!(o.looksAt ops).contains d || opWaits o j || opWaits o' i) && (i==j || o.dst != some d))
  | _,_=>true
def slotFact {G:Nat→World→Nat→Prop}(T:List (EntR G))(ops:Array Oper)(a:Act)(o:Oper)(s:Tmp)(q:Value)(u:World):Prop :=
 match srcOf ops o s with
 | some j=>(T.getD j EntR.any).f q u
 | none=>q=a.tmps.getD s undef
def seenAll {G:Nat→World→Nat→Prop}(T:List (EntR G))(ops:Array Oper)(a:Act)(o:Oper)(b:Act)(u:World):List Tmp→Prop
 | []=>True
 | s :: l=>slotFact T ops a o s (b.tmps.getD s undef) u∧seenAll T ops a o b u l
def askOne {G:Nat→World→Nat→Prop}(P:Program)(ops:Array Oper)(Q:Exit→Act→World→Prop)(S:World→Prop)(o:Oper)(E:EntR G)(b:Act)(u:World):Prop :=
 ∀ K:Act→World→Prop,(∀ v u',chg G E.s u u'→S u'→E.f (match o.dst with|some _=>v|none=>valA b o) u'→K (b.put o.dst v) u') →
  match o.guard with
  | none=>o.wp P b u K Q
  | some (g,c)=>∃ d bb,slotOf ops g=some d∧b.tmps.getD d undef=.bool bb∧if bb==c then o.wp P b u K Q else K (b.put o.dst undef) u
def askAll {G:Nat→World→Nat→Prop}(P:Program)(ops:Array Oper)(Q:Exit→Act→World→Prop)(T:List (EntR G))(a:Act)(S:World→Prop):List Oper→List (EntR G)→Prop
 | [],_=>True
 | o :: os,Ts=>(∀ b u,b.tmps.size=a.tmps.size→S u→seenAll T ops a o b u (o.looksAt ops)→askOne P ops Q S o (Ts.headD EntR.any) b u)∧askAll P ops Q T a S os Ts.tail
def toldAll {G:Nat→World→Nat→Prop}(ops:Array Oper)(g:Nat→Value)(u:World):List Oper→List (EntR G)→Prop
 | [],_=>True
 | o :: os,Ts=>(match o.dst with|some d=>(Ts.headD EntR.any).f (g d) u|none=>∃ v,(Ts.headD EntR.any).f v u∧(okAdr ops=true→v=match addrOf o with|some x=>g x|none=>undef))∧toldAll ops g u os Ts.tail
structure TabI {G:Nat→World→Nat→Prop} (ops:Array Oper) (T:List (EntR G)) (a:Act) (S:World→Prop) (l:Nat→Bool) (b:Act) (u:World):Prop where
 size:b.tmps.size=a.tmps.size
 defers:b.defers=a.defers
 kept:∀ s,(∀ i,slotOf ops i=some s→l i=false)→b.tmps.getD s undef=a.tmps.getD s undef
 world:S u
 val:∀ i d,slotOf ops i=some d→l i=true→(T.getD i EntR.any).f (b.tmps.getD d undef) u
 fx:∀ i o,ops[i]? = some o→o.dst=none→l i=true→∃ v,(T.getD i EntR.any).f v u∧(okAdr ops=true→v=valA b o)
theorem waits_mem {o:Oper}{j:Nat}(h:opWaits o j=true):∃ e∈o.after,Region.binds .any e=true∧e.on=j:=by
 unfold opWaits at h
 obtain⟨e,he,h2⟩:=List.any_eq_true.1 h
 simp only[Bool.and_eq_true,beq_iff_eq] at h2
 exact⟨e,by simpa using he,h2.2,h2.1⟩
theorem seen_of {G:Nat→World→Nat→Prop}{T:List (EntR G)}{ops:Array Oper}{a:Act}{o:Oper}{b:Act}{u:World}:∀ l:List Tmp,(∀ s∈l,slotFact T ops a o s (b.tmps.getD s undef) u)→seenAll T ops a o b u l
 | [],_=>trivial
 | s :: l,h=>⟨h s (by simp),seen_of l fun s' hs=>h s' (by simp[hs])⟩
theorem ask_at {G:Nat→World→Nat→Prop}{P:Program}{ops:Array Oper}{Q:Exit→Act→World→Prop}{T:List (EntR G)}{a:Act}{S:World→Prop}:∀ (os:List Oper) (Ts:List (EntR G)) (i:Nat) (o:Oper),os[i]? = some o→askAll P ops Q T a S os Ts →
  ∀ b u,b.tmps.size=a.tmps.size→S u→seenAll T ops a o b u (o.looksAt ops)→askOne P ops Q S o (Ts.getD i EntR.any) b u
 | [],_,i,o,h,_=>by simp at h
 | x :: os,Ts,0,o,h,k=>by
  obtain rfl:x=o:=by simpa using h
  have e:Ts.getD 0 EntR.any=Ts.headD EntR.any:=by cases Ts<;>rfl
  rw[e]
  exact k.1
 | x :: os,Ts,i+1,o,h,k=>by
  have e:Ts.getD (i+1) EntR.any=Ts.tail.getD i EntR.any:=by cases Ts<;>simp
  rw[e]
  exact ask_at os Ts.tail i o (by simpa using h) k.2
theorem told_of {G:Nat→World→Nat→Prop}{ops:Array Oper}{g:Nat→Value}{u:World}:∀ (os:List Oper) (Ts:List (EntR G)),(∀ i o d,os[i]? = some o→o.dst=some d→(Ts.getD i EntR.any).f (g d) u)→(∀ i o,os[i]? = some o→o.dst=none→∃ v,(Ts.getD i EntR.any).f v u∧(okAdr ops=true→v=match addrOf o with|some x=>g x|none=>undef))→toldAll ops g u os Ts
 | [],_,_,_=>trivial
 | o :: os,Ts,h,h'=>by
  refine⟨?_,told_of os Ts.tail (fun i o' d ho hd=>?_) (fun i o' ho hd=>?_)⟩
  ·cases hd:o.dst with
   | none =>
    have:=h' 0 o rfl hd
    have e:Ts.getD 0 EntR.any=Ts.headD EntR.any:=by cases Ts<;>rfl
    rw[e] at this
    exact this
   | some d =>
    have:=h 0 o d rfl hd
    have e:Ts.getD 0 EntR.any=Ts.headD EntR.any:=by cases Ts<;>rfl
    rw[e] at this
    exact this
  ·have:=h (i+1) o' d (by simpa using ho) hd
   have e:Ts.getD (i+1) EntR.any=Ts.tail.getD i EntR.any:=by cases Ts<;>simp
   rw[e] at this
   exact this
  ·have:=h' (i+1) o' (by simpa using ho) hd
   have e:Ts.getD (i+1) EntR.any=Ts.tail.getD i EntR.any:=by cases Ts<;>simp
   rw[e] at this
   exact this
structure TabOk {G:Nat→World→Nat→Prop} (P:Program) (os:List Oper) (Q:Exit→Act→World→Prop) (a:Act) (S:World→Prop) (T:List (EntR G)):Prop where
 low:lowB os.toArray=true
 step:∀ l i o b u,os.toArray[i]? = some o→l i=false→Closed os.toArray l→(∀ e∈o.after,Region.binds .any e=true→l e.on=true)→TabI os.toArray T a S l b u→wpOp P os.toArray Q i (fun a' w'=>TabI os.toArray T a S (fun j=>l j || j==i) a' w') b u
 fin:∀ l b u,(∀ i,i<os.toArray.size→l i=true)→TabI os.toArray T a S l b u→Q .normal b u
theorem tab_ok {G:Nat→World→Nat→Prop}{P:Program}{os:List Oper}{Q:Exit→Act→World→Prop}{a:Act}(hk:okTab os.toArray=true)(hsz:(os.all fun o=>o.dst.all fun d=>decide (d<a.tmps.size))=true)
  (S:World→Prop) (T:List (EntR G)) (hst:∀ i j,i≠j→∀ k g,(T.getD j EntR.any).s=some k→(∃ u,G k u g)→(T.getD i EntR.any).s≠some k) (ob:askAll P os.toArray Q T a S os T)
  (fin:∀ (g:Nat→Value) (u:World),S u→toldAll os.toArray g u os T→Q .normal ((os.filterMap (·.dst)).foldl (fun b s=>b.put (some s) (g s)) a) u):TabOk P os Q a S T:=by
 have hk':=hk
 unfold okTab at hk'
 rw[Bool.and_eq_true] at hk'
 obtain⟨hlow,hall⟩:=hk'
 have pair:∀ (i j:Nat) (o o':Oper) (d:Tmp),os[i]? = some o→os[j]? = some o'→o'.dst=some d→((o.looksAt os.toArray).contains d=true→opWaits o j=true∨opWaits o' i=true)∧(i≠j→o.dst≠some d):=by
  intro i j o o' d hi hj hd
  have h1:=List.all_eq_true.1 hall i (List.mem_range.2 (by simpa using (List.getElem?_eq_some_iff.1 hi).1))
  have h2:=List.all_eq_true.1 h1 j (List.mem_range.2 (by simpa using (List.getElem?_eq_some_iff.1 hj).1))
  simp only[List.getElem?_toArray,hi,hj,hd,Option.all_some,Bool.and_eq_true,Bool.or_eq_true,Bool.not_eq_true',beq_iff_eq,bne_iff_ne] at h2
  refine⟨fun hc=>?_,fun hne=>?_⟩
  ·rcases h2.1 with (h3|h3)|h3
   ·rw[hc] at h3;cases h3
   ·exact .inl h3
   ·exact .inr h3
  ·rcases h2.2 with h3|h3
   ·exact absurd h3 hne
   ·exact h3
 have slot:∀ (i:Nat) (d:Tmp),slotOf os.toArray i=some d→∃ o,os[i]? = some o∧o.dst=some d:=by
  intro i d h
  unfold slotOf at h
  rw[List.getElem?_toArray] at h
  cases ho:os[i]? with
  | none=>rw[ho] at h;cases h
  | some o=>rw[ho] at h;exact⟨o,rfl,h⟩
 have slotI:∀ (i:Nat) (o:Oper),os[i]? = some o→slotOf os.toArray i=o.dst:=by
  intro i o h
  unfold slotOf
  rw[List.getElem?_toArray,h]
  rfl
 have dlt:∀ (i:Nat) (o:Oper) (d:Tmp),os[i]? = some o→o.dst=some d→d<a.tmps.size:=by
  intro i o d hi hd
  have:=List.all_eq_true.1 hsz o (List.mem_of_getElem? hi)
  rw[hd] at this
  simpa using this
 refine⟨hlow,?_,?_⟩
 ·intro l i o b u ho hl hcl hdep hI
  have ho':os[i]? = some o:=by simpa using ho
  have seen:seenAll T os.toArray a o b u (o.looksAt os.toArray):=by
   refine seen_of _ fun s hs=>?_
   unfold slotFact
   cases hsrc:srcOf os.toArray o s with
   | some j =>
    have h1:=List.find?_some hsrc
    simp only[Bool.and_eq_true,beq_iff_eq] at h1
    obtain⟨e,he,hb,hon⟩:=waits_mem h1.2
    exact hI.val j s h1.1 (by rw[←hon];exact hdep e he hb)
   | none =>
    refine hI.kept s fun j hj=>?_
    obtain⟨o',hj',hd'⟩:=slot j s hj
    have h1:=(pair i j o o' s ho' hj' hd').1 (by simpa using hs)
    rcases h1 with h1|h1
    ·have h2:=List.find?_eq_none.1 hsrc j (List.mem_range.2 (by simpa using (List.getElem?_eq_some_iff.1 hj').1))
     simp[hj,h1] at h2
    ·obtain⟨e,he,hb,hon⟩:=waits_mem h1
     cases hlj:l j with
     | false=>rfl
     | true =>
      have:=hcl j o' (by simpa using hj') hlj e he hb
      rw[hon,hl] at this
      cases this
  have ask:=ask_at os T i o ho' ob b u hI.size hI.world seen
  have K:∀ v u',chg G (T.getD i EntR.any).s u u'→S u'→(T.getD i EntR.any).f (match o.dst with|some _=>v|none=>valA b o) u'→TabI os.toArray T a S (fun j=>l j || j==i) (b.put o.dst v) u':=by
   intro v u' hb0 hS' hf
   have hb:∀ j,j≠i→Chg G (T.getD j EntR.any).s u u':=fun j hj=>chg_to hb0 fun k g hk hg=>hst j i hj k g hk ⟨_,hg⟩
   have adr:okAdr os.toArray=true→∀ j o' x,os.toArray[j]? = some o'→l j=true→addrOf o'=some x→o.dst≠some x:=by
    intro hk j o' x hj hlj hx hd
    have h1:=List.all_eq_true.1 hk j (List.mem_range.2 (Array.getElem?_eq_some_iff.1 hj).1)
    have h2:=List.all_eq_true.1 h1 i (List.mem_range.2 (Array.getElem?_eq_some_iff.1 ho).1)
    simp only[hj,ho,hx,hd,bne_self_eq_false,Bool.false_or] at h2
    obtain⟨e,he,hb,hon⟩:=waits_mem h2
    have:=hcl j o' hj hlj e he hb
    rw[hon,hl] at this
    cases this
   have fx':∀ j o',os.toArray[j]? = some o'→o'.dst=none→(l j || j==i)=true→∃ v',(T.getD j EntR.any).f v' u'∧(okAdr os.toArray=true→v'=valA (b.put o.dst v) o'):=by
    intro j o' hj hd hl
    by_cases hji:j=i
    ·subst hji
     obtain rfl:o=o':=Option.some.inj (ho.symm.trans hj)
     rw[hd] at hf ⊢
     exact⟨_,hf,fun _=>rfl⟩
    ·have hlj:l j=true:=by simpa [hji] using hl
     obtain⟨v2,h2,e2⟩:=hI.fx j o' hj hd hlj
     refine⟨v2,(T.getD j EntR.any).st _ _ _ (hb j hji) h2,fun hk=>(e2 hk).trans ?_⟩
     unfold valA
     cases hx:addrOf o' with
     | none=>rfl
     | some x =>
      dsimp only
      cases hd0:o.dst with
      | none=>rfl
      | some d0 =>
       have hlt:d0<b.tmps.size:=by rw[hI.size];exact dlt i o d0 ho' hd0
       have hne:x≠d0:=fun e=>adr hk j o' x hj hlj hx (by rw[hd0,e])
       have:=get_put b d0 v x hlt
       rw[if_neg hne] at this
       exact this.symm
   cases hd:o.dst with
   | none =>
    rw[hd] at fx'
    refine⟨hI.size,hI.defers,fun s hs=>hI.kept s fun j hj=>?_,hS',fun j d hj hlj=>?_,fx'⟩
    ·have:=hs j hj
     simp only[Bool.or_eq_false_iff] at this
     exact this.1
    ·have hji:j≠i:=fun e=>by
      subst e
      rw[slotI j o ho',hd] at hj
      cases hj
     have hlj':l j=true:=by simpa [hji] using hlj
     exact (T.getD j EntR.any).st _ _ _ (hb j hji) (hI.val j d hj hlj')
   | some d0 =>
    rw[hd] at hf fx'
    have hlt:d0<b.tmps.size:=by rw[hI.size];exact dlt i o d0 ho' hd
    refine⟨by show (b.tmps.setIfInBounds d0 v).size=_;rw[Array.size_setIfInBounds];exact hI.size,hI.defers,fun s hs=>?_,hS',fun j d hj hlj=>?_,fx'⟩
    ·rw[get_put b d0 v s hlt,if_neg (fun e=>by
      have:=hs i (by rw[slotI i o ho',hd,e])
      simp at this)]
     refine hI.kept s fun j hj=>?_
     have:=hs j hj
     simp only[Bool.or_eq_false_iff] at this
     exact this.1
    ·rw[get_put b d0 v d hlt]
     by_cases hji:j=i
     ·subst hji
      rw[slotI j o ho',hd] at hj
      obtain rfl:=Option.some.inj hj
      rw[if_pos rfl]
      exact hf
     ·obtain⟨o',hj',hd'⟩:=slot j d hj
      have hne:d≠d0:=fun e=>(pair i j o o' d ho' hj' hd').2 (Ne.symm hji) (by rw[hd,e])
      rw[if_neg hne]
      have hlj':l j=true:=by simpa [hji] using hlj
      exact (T.getD j EntR.any).st _ _ _ (hb j hji) (hI.val j d hj hlj')
  have ask':=ask _ K
  unfold wpOp
  rw[show os.toArray[i]? = some o by simpa using ho']
  dsimp only
  cases hg:o.guard with
  | none =>
   rw[hg] at ask'
   rw[if_pos (by simp[Region.wanted,hg])]
   exact .inl ask'
  | some gc =>
   obtain⟨g,c⟩:=gc
   rw[hg] at ask'
   obtain⟨d,bb,hsg,hbb,hask⟩:=ask'
   have hy:yielded os.toArray b.tmps g=some bb:=by
    unfold yielded
    rw[show (os.toArray[g]?).bind (·.dst)=some d from hsg]
    by_cases hlt:d<b.tmps.size
    ·rw[Array.getD_eq_getD_getElem?,Array.getElem?_eq_getElem hlt] at hbb
     simp only[Option.getD_some] at hbb
     simp[Array.getElem?_eq_getElem hlt,hbb]
    ·rw[Array.getD_eq_getD_getElem?,Array.getElem?_eq_none (Nat.le_of_not_lt hlt)] at hbb
     cases hbb
   by_cases hc:bb=c
   ·rw[if_pos (by simp[hc])] at hask
    rw[if_pos (by simp[Region.wanted,hg,hy,hc])]
    exact .inl hask
   ·rw[if_neg (by simpa using hc)] at hask
    rw[if_neg (by simp[Region.wanted,hg,hy,hc])]
    exact hask
 ·intro l b u hdone hI
  have hd:∀ i o,os[i]? = some o→l i=true:=fun i o h=>hdone i (by simpa using (List.getElem?_eq_some_iff.1 h).1)
  have ep:=fPu (a:=b) (os.filterMap (·.dst)) (b:=a) hI.size hI.defers (fun s hs=>hI.kept s fun i hi=>by
   obtain⟨o,ho,hd⟩:=slot i s hi
   exact absurd (List.mem_filterMap.2 ⟨o,List.mem_of_getElem? ho,hd⟩) hs)
  rw[ep]
  refine fin (fun s=>b.tmps.getD s undef) u hI.world (told_of os T (fun i o d ho hd'=>?_) (fun i o ho hd'=>?_))
  ·exact hI.val i d (by rw[slotI i o ho,hd']) (hd i o ho)
  ·obtain⟨v,h1,h2⟩:=hI.fx i o (by simpa using ho) hd' (hd i o ho)
   exact⟨v,h1,fun hk=>h2 hk⟩
theorem wp_region_tabS {G:Nat→World→Nat→Prop}{P:Program}{id:Nat}{os:List Oper}{Q:Exit→Act→World→Prop}{a:Act}{w:World}(hm:P.follows .mixedOrders=true)(hk:okTab os.toArray=true)(hsz:(os.all fun o=>o.dst.all fun d=>decide (d<a.tmps.size))=true)
  (S:World→Prop) (T:List (EntR G)) (hst:∀ i j,i≠j→∀ k g,(T.getD j EntR.any).s=some k→(∃ u,G k u g)→(T.getD i EntR.any).s≠some k) (hS:S w.drew) (ob:askAll P os.toArray Q T a S os T)
  (fin:∀ (g:Nat→Value) (u:World),S u→toldAll os.toArray g u os T→Q .normal ((os.filterMap (·.dst)).foldl (fun b s=>b.put (some s) (g s)) a) u):(Code.region id os.toArray true).wp P Q a w :=
 have k:=tab_ok hk hsz S T hst ob fin
 wRi hm k.low (TabI os.toArray T a S) ⟨rfl,rfl,fun _ _=>rfl,hS,fun _ _ _ h=>by (cases h),fun _ _ _ _ h=>by cases h⟩ k.step k.fin
theorem wp_region_tab0S {G:Nat→World→Nat→Prop}{P:Program}{id:Nat}{os:List Oper}{Q:Exit→Act→World→Prop}{a:Act}{w:World}(hk:okTab os.toArray=true)(hsz:(os.all fun o=>o.dst.all fun d=>decide (d<a.tmps.size))=true)
  (S:World→Prop) (T:List (EntR G)) (hst:∀ i j,i≠j→∀ k g,(T.getD j EntR.any).s=some k→(∃ u,G k u g)→(T.getD i EntR.any).s≠some k) (hS:S w) (ob:askAll P os.toArray Q T a S os T)
  (fin:∀ (g:Nat→Value) (u:World),S u→toldAll os.toArray g u os T→Q .normal ((os.filterMap (·.dst)).foldl (fun b s=>b.put (some s) (g s)) a) u):(Code.region id os.toArray false).wp P Q a w:=by
 have k:=tab_ok hk hsz S T hst ob fin
 refine wp_region ?_
 have key:∀ m n b u,n+m=os.toArray.size→TabI os.toArray T a S (fun j=>decide (j<n)) b u→wpOps P os.toArray Q (List.range' n m) b u:=by
  intro m
  induction m with
  | zero =>
   intro n b u hn hI
   exact k.fin _ b u (fun i hi=>by simp;omega) hI
  | succ m ih =>
   intro n b u hn hI
   rw[List.range'_succ,wpOps_cons]
   have hlt:n<os.toArray.size:=by omega
   have ho:os.toArray[n]? = some os.toArray[n]:=by simp[hlt]
   refine wpOp_mono ?_ (k.step _ n os.toArray[n] b u ho (by simp) ?_ ?_ hI)
   ·intro b' u' hI'
    refine ih (n+1) b' u' (by omega) ?_
    have e:(fun j=>decide (j<n) || j==n)=fun j=>decide (j<n+1):=by
     funext j
     by_cases h:j<n
     ·simp[h,Nat.lt_succ_of_lt h]
     ·by_cases h2:j=n
      ·simp[h2]
      ·have:¬j<n+1:=by omega
       simp[h,h2,this]
    rw[←e]
    exact hI'
   ·intro i o hi hli e he hb
    have h1:=low_of k.low hi e he hb
    simp only[decide_eq_true_eq] at hli ⊢
    omega
   ·intro e he hb
    have h1:=low_of k.low ho e he hb
    simpa using h1
 have:=key os.toArray.size 0 a w (by omega) ⟨rfl,rfl,fun _ _=>rfl,hS,fun _ _ _ h=>by (simp at h),fun _ _ _ _ h=>by simp at h⟩
 rwa [←List.range_eq_range'] at this
theorem wp_region_tab {P:Program}{id:Nat}{os:List Oper}{Q:Exit→Act→World→Prop}{a:Act}{w:World}(hm:P.follows .mixedOrders=true)(hk:okTab os.toArray=true)(hsz:(os.all fun o=>o.dst.all fun d=>decide (d<a.tmps.size))=true)
  (S:World→Prop) (T:List Ent) (hS:S w.drew) (ob:askAll P os.toArray Q T a S os T)
  (fin:∀ (g:Nat→Value) (u:World),S u→toldAll os.toArray g u os T→Q .normal ((os.filterMap (·.dst)).foldl (fun b s=>b.put (some s) (g s)) a) u):(Code.region id os.toArray true).wp P Q a w :=
 wp_region_tabS hm hk hsz S T (fun _ _ _ _ _ _ ⟨_,h⟩=>h.elim) hS ob fin
theorem wp_region_tab0 {P:Program}{id:Nat}{os:List Oper}{Q:Exit→Act→World→Prop}{a:Act}{w:World}(hk:okTab os.toArray=true)(hsz:(os.all fun o=>o.dst.all fun d=>decide (d<a.tmps.size))=true)
  (S:World→Prop) (T:List Ent) (hS:S w) (ob:askAll P os.toArray Q T a S os T)
  (fin:∀ (g:Nat→Value) (u:World),S u→toldAll os.toArray g u os T→Q .normal ((os.filterMap (·.dst)).foldl (fun b s=>b.put (some s) (g s)) a) u):(Code.region id os.toArray false).wp P Q a w :=
 wp_region_tab0S hk hsz S T (fun _ _ _ _ _ _ ⟨_,h⟩=>h.elim) hS ob fin
theorem ask_load {P:Program}{o:Oper}{b:Act}{u:World}{K:Act→World→Prop}{Q:Exit→Act→World→Prop}{ty:TypeId}{x:Operand}{g:Nat}{t:TypeId}{cs:Array Value}{d:TypeDesc}(ho:o.op=.load ty x)(hx:b.eval x=.pointer (some ⟨g,0,none⟩))(hg:u.heap[g]? = some (.cells cs t (0,0)))
  (hu:P.underlying ty=some d) (hd:(match d with|.struct _|.array _ _=>true|_=>false)=true) (hi:(P.info? ty).map (·.size)=some cs.size) (h:K (b.put o.dst (.agg cs)) u):o.wp P b u K Q :=
 wp_load_row ty x ho g hx t cs (0,0) d hg hu hd hi h
end Go.Proofs.YtbkjhfmehemgpaaGreat

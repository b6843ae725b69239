/- Texts put together. -/
import Derived.Test.YthliomlmhfjhnaaGreatZp11
import Derived.Test.YthliomlmhfjhnaaGreatZp5
namespace Go.Proofs.YthliomlmhfjhnaaGreat
set_option maxRecDepth 20000
set_option maxHeartbeats 16000000
open Go.ChangeShapes Go.WideShapes Go.ChangeAt Go.RowKit
set_option linter.unusedVariables false
set_option linter.unusedSimpArgs false
def cutR (R:Nat→List Int)(f d:Nat)(r:Nat):List Int:=((R r).drop f).take d
def cutA (A:Nat→Option Addr)(f:Nat)(r:Nat):Option Addr:=(A r).map fun x=>x.add f
theorem QaV (R:Nat→List Int)(f d r:Nat)(h:f+d≤(R r).length):(cutR R f d r).length=d:=by
 unfold cutR
 rw[List.length_take,List.length_drop]
 omega
theorem QgV (x:Addr)(n c f d B:Nat)(w:World)(hd:0<d)(hn:f+d≤n)(hc:n≤c)(hm:n≤9223372036854775807)(hB:w.cell? ⟨B,0,none⟩=some (I4 d)) :
  Calls Tryz.prog 97 #[.slice (some x) n c,I4 f,Pt B] w fun e w'=>e=.returned (.slice (some (x.add f)) d d)∧w'=w:=by
 obtain⟨Q,eQ⟩:∃ Q,f+d=Q:=⟨_,rfl⟩
 have eQ':(f:Int)+(d:Int)=(Q:Int):=by omega
 have eQ2:Q-f=d:=by omega
 have hQ:Q≤n:=by omega
 have hP:f<Q:=by omega
 clear eQ
 go_enter Tryz.func97,Tryz.ntmps97
 go_wp2
 go_ret
 exact⟨rfl,rfl⟩
theorem Qga {w:World}{a:Option Addr}{n:Nat}{A:Nat→Option Addr}{C:Nat→Nat}{R:Nat→List Int}(h:Grid w a n A C R){f d:Nat}(hd:0<d)(hr:∀ r,r<n→f+d≤(R r).length)
  {b:Option Addr} (hb:0<n→∃ x,b=some x) {D:Nat→Nat} (hc:∀ x,b=some x→∀ r,r<n→w.cell? (x.add r)=some (.slice (cutA A f r) d (D r))):Grid w b n (cutA A f) D (cutR R f d):=by
 refine⟨h.max,hb,fun x hx r hr'=>?_,fun r hr'=>?_⟩
 ·rw[QaV R f d r (hr r hr')]
  exact hc x hx r hr'
 ·have rr:=h.row r hr'
  have h1:=hr r hr'
  obtain⟨x,hx⟩:=rr.some_ (by omega)
  rw[QaV R f d r h1]
  unfold cutA cutR
  rw[hx] at rr ⊢
  exact rr.cut f d h1
theorem QdV (a:Option Addr)(n c:Nat)(A:Nat→Option Addr)(C:Nat→Nat)(R:Nat→List Int)(f d B:Nat)(w:World)(h:Grid w a n A C R)(hC:∀ r,r<n→(R r).length≤C r)(hd:0<d)(hr:∀ r,r<n→f+d≤(R r).length)
  (hB:w.cell? ⟨B,0,none⟩=some (I4 d)) (hb:n*24≤140737488355328) :
  Calls Tryz.prog 99 #[.slice a n c,I4 f,.func (.func 97) #[] #[Pt B]] w fun e w'=>(∃ x k,e=.returned (.slice (some x) n k)∧Grid w' (some x) n (cutA A f) (fun _=>d) (cutR R f d))∧Bw w w':=by
 obtain⟨i0,hi,hz0,hz1,hz2⟩:=info_parts Qcl
 have hm:=h.max
 go_enter Tryz.func99,Tryz.ntmps99
 go_wp2_with (first
  | (at_make;refine wpList_make_full _ rfl (.tmp 11) (.tmp 11) 31 rfl w.heap.size 34 i0 (.slice none 0 0) 1 Tryz.underlying31 hi hz0 hz1 .i64 .i64 _ _ n rfl rfl rfl rfl (by rw[hz2];omega) (by unfold maxLen;omega) nL ?_;intro w1 hown hgrow))
 have hbel:Bw w w1:=bR.grown hgrow nL (fun k h=>by cases h)
 clear hgrow
 go_wp2
 go_loopw [15] (fun i wr=>∃ k:Nat,k≤n∧i=I4 k∧Bw w wr∧∃ cs,wr.ownsRow w.heap.size 34 1 (.slice (some ⟨w.heap.size,0,none⟩) n n) n cs∧∀ j,j<k→cs[j]? = some (.slice (cutA A f j) d d)) (fun i _=>n-(intOf i).toNat)
 case atStart=>exact⟨0,Nat.zero_le _,rfl,hbel,_,hown,fun j hj=>by omega⟩
 case round =>
  clear hown hbel
  obtain⟨k,hk,rfl,hbr,cs,ho,hcs⟩:=hrel
  by_cases hlt:k<n
  ·obtain⟨x,rfl⟩:=h.some_ (by omega)
   have rk:=h.row k hlt
   have cx:=(h.below hbr).cell x rfl k hlt
   have h1:=hr k hlt
   have h2:=hC k hlt
   have h3:=rk.max
   obtain⟨y,ey⟩:=rk.some_ (by omega)
   have eA:cutA A f k=some (y.add f):=by unfold cutA;rw[ey];rfl
   rw[ey] at cx
   have hB':wr.cell? ⟨B,0,none⟩=some (I4 d):=(hbr.cell (World.block_lt_of_cell? w _ hB)).trans hB
   obtain⟨L,eL⟩:∃ L,(R k).length=L:=⟨_,rfl⟩
   rw[eL] at cx h1 h2 h3
   have kp:=QgV y L (C k) f d B wr hd h1 h2 h3 hB'
   have hlen:=oLe ho
   obtain⟨u,hu⟩:∃ u,cs[k]? = some u:=⟨cs[k],by simp[hlen,hlt]⟩
   have cell:wr.cell? ⟨w.heap.size,k,none⟩=some u:=(ho.cellAt k (by omega)).trans hu
   have froz:=ho.frozenAt k
   have Rr:Hid (Bw w (wr.setCell ⟨w.heap.size,k,none⟩ (.slice (some (y.add f)) d d))∧∃ cs',(wr.setCell ⟨w.heap.size,k,none⟩ (.slice (some (y.add f)) d d)).ownsRow w.heap.size 34 1 (.slice (some ⟨w.heap.size,0,none⟩) n n) n cs'∧∀ j,j<k+1→cs'[j]? = some (.slice (cutA A f j) d d)) :=
    ⟨hbr.setCell nL _,_,(ho.stored k _).1,set_step (F:=fun j=>Value.slice (cutA A f j) d d) hlen hlt (by rw[eA]) hcs⟩
   clear eL eA ey rk ho hcs hlen hbr hu h hr hC hB hi hz0 hz1 hz2
   go_wp2_with (go_at_call 97;refine kp.mono ?_;rintro e w' ⟨rfl,h⟩;obtain rfl:=h.symm)
   go_roundw
   case rel=>exact⟨k+1,by omega,by go_num,Rr.out⟩
   case measure=>simp[intOf];omega
  ·have e:k=n:=by omega
   subst e
   have fin:=Qga (h.below hbr) hd hr (b:=some ⟨w.heap.size,0,none⟩) (fun _=>⟨_,rfl⟩) (D:=fun _=>d) (fun x hx r hr'=>by
    obtain rfl:=Option.some.inj hx
    exact ho.cells (g:=w.heap.size) rfl r _ (hcs r hr'))
   clear hcs ho
   go_wp2
   go_ret
   exact⟨⟨_,_,rfl,fin⟩,hbr⟩
def Qch (xs:List Int)(p:Int)(j:Nat):Int :=
 if j%2=0 then Qke (xs.getD (2*(j/2)) 0) (xs.getD (2*(j/2)+1) 0) (p*((j/2:Nat)+1)) else Qkd (xs.getD (2*(j/2)) 0) (xs.getD (2*(j/2)+1) 0) (p*((j/2:Nat)+1))
def QcH (xs:List Int)(p:Int)(n:Nat):List Int:=(List.range n).map (Qch xs p)
theorem Qfc (xs:List Int)(p:Int)(k:Nat):Qch xs p (2*k)=Qke (xs.getD (2*k) 0) (xs.getD (2*k+1) 0) (p*(k+1)):=by
 unfold Qch
 rw[if_pos (by omega),show 2*k/2=k by omega]
theorem Qgi (xs:List Int)(p:Int)(k:Nat):Qch xs p (2*k+1)=Qkd (xs.getD (2*k) 0) (xs.getD (2*k+1) 0) (p*(k+1)):=by
 unfold Qch
 rw[if_neg (by omega),show (2*k+1)/2=k by omega]
theorem QfB (xs:List Int)(p:Int)(j:Nat):(Lit.int .i64 (Qch xs p j)).wf=true:=by
 unfold Qch
 split
 ·exact wCz _
 ·exact wCz _
theorem QkU {W:World}{B n i:Nat}{cs:List Value}{F:Nat→Int}{A C:Int}(hs:W.ownsRow B 2 1 (.slice (some ⟨B,0,none⟩) n n) n cs)(hi:i+1<n)
  (hcs:∀ j,j<i→cs[j]? = some (I4 (F j))) (hA:Value.int .i64 A=I4 (F i)) (hC:Value.int .i64 C=I4 (F (i+1))) :
  ∃ u u',W.cell? ⟨B,i,none⟩=some u∧W.frozen? ⟨B,i,none⟩=false∧(W.setCell ⟨B,i,none⟩ (I4 A)).cell? ⟨B,i+1,none⟩=some u'∧(W.setCell ⟨B,i,none⟩ (I4 A)).frozen? ⟨B,i+1,none⟩=false ∧
   ∃ cs',((W.setCell ⟨B,i,none⟩ (I4 A)).setCell ⟨B,i+1,none⟩ (I4 C)).ownsRow B 2 1 (.slice (some ⟨B,0,none⟩) n n) n cs'∧∀ j,j<i+2→cs'[j]? = some (I4 (F j)):=by
 have hlen:=oLe hs
 have s1:=(hs.stored i (I4 A)).1
 have hlen1:=oLe s1
 have s2:=(s1.stored (i+1) (I4 C)).1
 have g1:=set_step (F:=fun j=>Value.int .i64 (F j)) hlen (by omega) hA hcs
 have g2:=set_step (F:=fun j=>Value.int .i64 (F j)) hlen1 hi hC g1
 refine⟨cs[i],_,(hs.cellAt i (by omega)).trans (by simp),hs.frozenAt i,(s1.cellAt (i+1) (by omega)).trans (List.getElem?_eq_getElem (by omega)),s1.frozenAt (i+1),_,s2,g2⟩
theorem QmV (a0:Option Addr)(h c0:Nat)(xs:List Int)(p:Int)(w:World)(h0:Reads .i64 w a0 (2*h) xs)(hp:0≤p∧p≤1000)(hb:2*h*8≤281474976710656) :
  Calls Tryz.prog 117 #[.slice a0 (2*h) c0,I4 p] w fun e w'=>(∃ a c,e=.returned (.tuple #[.slice a (2*h) c,I4 0])∧Reads .i64 w' a (2*h) (QcH xs p (2*h))∧(a=none→c=0))∧Bw w w':=by
 obtain⟨i0,hi,hz0,hz1,hz2⟩:=info_parts QaT
 obtain⟨p0,p1⟩:=hp
 have hm:=h0.max
 obtain⟨n,en⟩:∃ n,2*h=n:=⟨_,rfl⟩
 rw[en] at h0 hb hm ⊢
 have ev:((n:Int)%2==0)=true:=by simp;omega
 have hf:(n:Int)/2=(h:Int):=by omega
 unfold QcH
 go_enter Tryz.func117,Tryz.ntmps117
 go_wp2_with (first
  | (at_make;refine wpList_make_full _ rfl (.tmp 19) (.tmp 19) 34 rfl w.heap.size 2 i0 (I4 0) 1 Tryz.underlying34 hi hz0 hz1 .i64 .i64 _ _ n rfl rfl rfl rfl (by rw[hz2];omega) (by unfold maxLen;omega) nL ?_;intro w1 hown hgrow))
 have hbel:Bw w w1:=bR.grown hgrow nL (fun k h=>by cases h)
 go_wp2
 go_loopw [24] (fun i wr=>∃ k:Nat,k≤h∧i=I4 k∧Bw w wr∧∃ cs,wr.ownsRow w.heap.size 2 1 (.slice (some ⟨w.heap.size,0,none⟩) n n) n cs∧∀ j,j<2*k→cs[j]? = some (I4 (Qch xs p j))) (fun i _=>h-(intOf i).toNat)
 case atStart=>exact⟨0,Nat.zero_le _,rfl,hbel,_,hown,fun j hj=>by omega⟩
 case round =>
  obtain⟨k,hk,rfl,hbr,cs,ho,hcs⟩:=hrel
  by_cases hlt:k<h
  ·have hr:=h0.below hbr
   obtain⟨x,rfl⟩:=h0.some_ (by omega)
   have cx:=hr.cell x rfl (2*k) (by omega)
   have cy:=hr.cell x rfl (2*k+1) (by omega)
   have wx:=h0.wf (2*k)
   have wy:=h0.wf (2*k+1)
   have hlen:=oLe ho
   have eA:=Qfc xs p k
   have eB:=Qgi xs p k
   have m0:0≤p*((k:Int)+1):=Int.mul_nonneg p0 (by omega)
   have m1:p*((k:Int)+1)≤1000*((k:Int)+1):=Int.mul_le_mul_of_nonneg_right p1 (by omega)
   obtain⟨M,eM⟩:∃ M,p*((k:Int)+1)=M:=⟨_,rfl⟩
   rw[eM] at m0 m1 eA eB
   obtain⟨X,eX⟩:∃ X,xs.getD (2*k) 0=X:=⟨_,rfl⟩
   obtain⟨Y,eY⟩:∃ Y,xs.getD (2*k+1) 0=Y:=⟨_,rfl⟩
   rw[eX] at cx wx
   rw[eY] at cy wy
   rw[eX,eY] at eA eB
   have kt:=fun W=>Qhr X Y M wx wy W
   rw[←eA,←eB] at kt
   obtain⟨A,eA'⟩:∃ A,Qch xs p (2*k)=A:=⟨_,rfl⟩
   obtain⟨B,eB'⟩:∃ B,Qch xs p (2*k+1)=B:=⟨_,rfl⟩
   rw[eA',eB'] at kt
   have step:=fun (W:World) (hs:W.ownsRow w.heap.size 2 1 (.slice (some ⟨w.heap.size,0,none⟩) n n) n cs) =>
    QkU hs (i:=2*k) (by omega) (fun j hj=>hcs j hj) (A:=A) (C:=B) (by rw[eA']) (by rw[eB'])
   obtain⟨i,ei⟩:∃ i,2*k=i:=⟨_,rfl⟩
   have ik:2*(k:Int)=(i:Int):=by omega
   have hin:i+1<n:=by omega
   rw[ei] at cx cy
   rw[ei] at step
   obtain⟨i',ei'⟩:∃ i',i+1=i':=⟨_,rfl⟩
   rw[ei'] at cy step hin
   have ik':(i:Int)+1=(i':Int):=by omega
   have Ei':Hid (i+2=2*(k+1)):=show i+2=2*(k+1) by omega
   have Ei:Hid (2*k=i):=ei
   have v0:IntKind.i64.wrap (i:Int)=i:=by rw[IntKind.wrap_i64];omega
   have v1:IntKind.i64.wrap (i':Int)=i':=by rw[IntKind.wrap_i64];omega
   have v2:IntKind.i64.wrap ((k:Int)+1)=(k:Int)+1:=by rw[IntKind.wrap_i64];omega
   have v3:IntKind.i64.wrap M=M:=by rw[IntKind.wrap_i64];omega
   have key:∀ W2,Below wr.drew.heap.size wr.drew W2→∃ u u',W2.cell? ⟨w.heap.size,i,none⟩=some u∧W2.frozen? ⟨w.heap.size,i,none⟩=false∧(W2.setCell ⟨w.heap.size,i,none⟩ (I4 A)).cell? ⟨w.heap.size,i',none⟩=some u'∧(W2.setCell ⟨w.heap.size,i,none⟩ (I4 A)).frozen? ⟨w.heap.size,i',none⟩=false ∧
     Hid (Bw w ((W2.setCell ⟨w.heap.size,i,none⟩ (I4 A)).setCell ⟨w.heap.size,i',none⟩ (I4 B))∧∃ cs',((W2.setCell ⟨w.heap.size,i,none⟩ (I4 A)).setCell ⟨w.heap.size,i',none⟩ (I4 B)).ownsRow w.heap.size 2 1 (.slice (some ⟨w.heap.size,0,none⟩) n n) n cs'∧∀ j,j<i+2→cs'[j]? = some (I4 (Qch xs p j))):=by
    intro W2 hb2'
    have hb2:Bw wr W2:=⟨hb2'.os,hb2'.tape,hb2'.output,hb2'.size,hb2'.block⟩
    obtain⟨u,u',c2,f2,c3,f3,R'⟩:=step W2 (oBe ho hb2)
    exact⟨u,u',c2,f2,c3,f3,((bTn hbr hb2).setCell nL _).setCell nL _,R'⟩
   clear step ho hbr
   clear ei ei' eA eB eA' eB' eX eY hcs hr hown hgrow hbel hi hz0 hz1 hz2 h0 hf ev en
   go_wp2
   go_region_with (first
    | (go_at_call 132;refine (kt _).mono ?_;rintro e W2 ⟨rfl,hb2⟩;obtain⟨u,u',c2,f2,c3,f3,R⟩:=key W2 hb2;clear hb2))
   all_goals
    go_wp2
    go_roundw
    case rel=>exact⟨k+1,by omega,by go_num,R.out.1,by rw[←Ei'.out];exact R.out.2⟩
    case measure=>simp[intOf];omega
  ·have e:k=h:=by omega
   subst e
   have fin:=oRa (zs:=(List.range n).map (Qch xs p)) ho (by simp) (fun z hz=>by obtain⟨y,_,rfl⟩:=List.mem_map.1 hz;exact QfB _ _ _) (fun j hj=>by rw[hcs j (by omega)];simp[hj])
   clear hcs ho
   go_wp2
   go_ret2
   exact⟨⟨_,_,rfl,fin,fun h=>by cases h⟩,hbr⟩
def headsL (xs:List Int)(p:Int)(d:Nat):Nat→List Int
 | 0=>[]
 | m+1=>headsL xs p d m++QcH ((xs.drop (m*d)).take d) p d
theorem Qgh (xs:List Int)(p:Int)(n:Nat):(QcH xs p n).length=n:=by simp[QcH]
theorem Qa2 (xs:List Int)(p:Int)(d m:Nat):(headsL xs p d m).length=m*d:=by
 induction m with
 | zero=>simp[headsL]
 | succ m ih=>rw[headsL,List.length_append,ih,Qgh,Nat.succ_mul]
theorem QlL (xs:List Int)(p:Int)(n:Nat):∀ z∈QcH xs p n,(Lit.int .i64 z).wf=true:=fun z hz=>by
 obtain⟨y,_,rfl⟩:=List.mem_map.1 hz
 exact QfB _ _ _
theorem Qgf (xs:List Int)(p:Int)(d m:Nat):∀ z∈headsL xs p d m,(Lit.int .i64 z).wf=true:=by
 induction m with
 | zero=>intro z hz;simp[headsL] at hz
 | succ m ih =>
  intro z hz
  rw[headsL,List.mem_append] at hz
  rcases hz with h|h
  ·exact ih z h
  ·exact QlL _ _ _ z h
theorem QhD (n H:Nat)(hH:0<H)(hm:n≤9223372036854775807)(w:World) :
  Calls Tryz.prog 116 #[I4 n,I4 H] w fun e w'=>e=.returned (.bool (decide (n%H=0∧n/H%2=0)))∧w'=w:=by
 have z:((H:Int)==0)=false:=by simp;omega
 obtain⟨r,er⟩:∃ r,n%H=r:=⟨_,rfl⟩
 obtain⟨d,ed⟩:∃ d,n/H=d:=⟨_,rfl⟩
 have er':(n:Int)%(H:Int)=(r:Int):=by rw[←er];simp
 have ed':(n:Int)/(H:Int)=(d:Int):=by rw[←ed];simp
 have hd:d≤n:=by rw[←ed];exact Nat.div_le_self _ _
 rw[er,ed]
 clear er ed
 go_enter Tryz.func116,Tryz.ntmps116
 go_wp2
 ·have h:r=0:=by assumption
  go_ret
  refine⟨?_,rfl⟩
  by_cases e:d%2=0
  ·have e':((d:Int)%2==0)=true:=by simp;omega
   simp[h,e,e']
  ·have e':((d:Int)%2==0)=false:=by simp;omega
   simp[e,e']
 ·have h:¬r=0:=by assumption
  go_ret
  exact⟨by simp[h],rfl⟩
theorem Qkc (a0:Option Addr)(n c0:Nat)(xs:List Int)(p:Int)(w:World)(h0:Reads .i64 w a0 n xs)(hn:n%2=0)(hp:0≤p∧p≤1000)(hb:n*8≤281474976710656) :
  Calls Tryz.prog 117 #[.slice a0 n c0,I4 p] w fun e w'=>(∃ a c,e=.returned (.tuple #[.slice a n c,I4 0])∧Reads .i64 w' a n (QcH xs p n)∧(a=none→c=0))∧Bw w w':=by
 obtain⟨k,rfl⟩:∃ k,n=2*k:=⟨n/2,by omega⟩
 exact QmV _ _ _ _ _ _ h0 hp hb
theorem Qfr {w:World}{x:Addr}{n:Nat}{xs:List Int}(h:Reads .i64 w (some x) n xs){H d m:Nat}(e:H*d=n)(hm:m<H):m*d+d≤n∧Reads .i64 w (some (x.add (m*d))) d ((xs.drop (m*d)).take d):=by
 have h1:(m+1)*d≤H*d:=Nat.mul_le_mul_right d hm
 rw[Nat.succ_mul,e] at h1
 exact⟨h1,h.cut _ _ h1⟩
theorem Qmu (x:Addr)(n c0 H:Nat)(xs:List Int)(p:Int)(w:World)(h0:Reads .i64 w (some x) n xs)(l0:n≤c0)(hH:0<H)(hn:0<n)(h:n%H=0∧n/H%2=0)(hp:0≤p∧p≤1000)(hb:n*8≤140737488355328) :
  Calls Tryz.prog 95 #[.slice (some x) n c0,I4 H,I4 p] w fun e w'=>(∃ a c,e=.returned (.tuple #[.slice a n c,I4 0])∧Reads .i64 w' a n (headsL xs p (n/H) H)∧n≤c)∧Bw w w':=by
 obtain⟨i0,hi,hz0,hz1,hz2⟩:=info_parts QaT
 have hm:=h0.max
 have ks:=QhD n H hH hm w
 rw[decide_eq_true h] at ks
 obtain⟨d,ed⟩:∃ d,n/H=d:=⟨_,rfl⟩
 have ed':(n:Int)/(H:Int)=(d:Int):=by rw[←ed];simp
 have eH:H*d=n:=by rw[←ed,Nat.mul_comm];exact Nat.div_mul_cancel (Nat.dvd_of_mod_eq_zero h.1)
 rw[ed] at h ⊢
 have d2:=h.2
 have d0:0<d:=by
  rcases Nat.eq_zero_or_pos d with r|r
  ·subst r;simp at eH;omega
  ·exact r
 have hdn9q:d≤n:=by rw[←ed];exact Nat.div_le_self _ _
 clear h ed
 have z:((H:Int)==0)=false:=by simp;omega
 have zn:((n:Int)==0)=false:=by simp;omega
 have kt:=fun (W:World) a c ys (h:Reads .i64 W a d ys) (hd:d*8≤281474976710656)=>Qkc a d c ys p W h d2 hp hd
 go_enter Tryz.func95,Tryz.ntmps95
 go_wp2_with (first
  | (go_at_call 116;refine ks.mono ?_;rintro e w' ⟨rfl,h⟩;obtain rfl:=h.symm)
  | (at_make;refine wpList_make_own _ rfl _ (.tmp 28) 34 rfl w.heap.size 2 i0 (I4 0) 1 Tryz.underlying34 hi hz0 hz1 .i64 .i64 _ n rfl rfl rfl (by rw[hz2];omega) (by unfold maxLen;omega) nL ?_;intro w1 hown hgrow))
 have hbel:Bw w w1:=bR.grown hgrow nL (fun k h=>by cases h)
 go_wp2
 go_loopw [8,10] (fun v i wr=>∃ k:Nat,k≤H∧i=I4 ((k*d:Nat):Int)∧Bw w wr∧wr.ownsRow w.heap.size 2 1 v (k*d) ((headsL xs p d k).map (Value.int .i64))) (fun _ i _=>n-(intOf i).toNat)
 case atStart=>exact⟨0,Nat.zero_le _,by simp,hbel,by simpa [headsL] using hown⟩
 case round =>
  clear hown hgrow hbel
  obtain⟨k,hk,rfl,hbr,ho⟩:=hrel
  by_cases hlt:k<H
  ·obtain⟨hq,hr⟩:=Qfr (h0.below hbr) eH hlt
   have es:headsL xs p d (k+1)=headsL xs p d k++QcH ((xs.drop (k*d)).take d) p d:=rfl
   have ek:(k+1)*d=k*d+d:=Nat.succ_mul k d
   obtain⟨ys,ey⟩:∃ ys,(xs.drop (k*d)).take d=ys:=⟨_,rfl⟩
   obtain⟨P,eP⟩:∃ P,k*d=P:=⟨_,rfl⟩
   rw[ey] at hr es
   rw[eP] at hr hq ek ho ⊢
   have Es:Hid (headsL xs p d (k+1)=headsL xs p d k++QcH ys p d):=es
   have Ek:Hid ((k+1)*d=P+d):=ek
   obtain⟨Q,eQ⟩:∃ Q,P+d=Q:=⟨_,rfl⟩
   have eQ':(P:Int)+(d:Int)=(Q:Int):=by omega
   have eQ2:Q-P=d:=by omega
   have hQ:Q≤n:=by omega
   have hP:P<Q:=by omega
   clear ey eP es ek h0 ks eH hk eQ
   go_wp2_with (first
    | (go_at_call 117;refine (kt _ _ _ _ hr (by omega)).mono ?_;rintro e W2 ⟨⟨p2,q2,rfl,r2,n2⟩,hb2⟩;replace ho:=oBe ho hb2;replace hbr:=bTn hbr hb2;clear hb2 hr;have hsz:=hbr.size)
    | (at_builtin;refine Qav rfl (.tmp 55) (.tmp 56) 34 rfl w.heap.size 2 i0 (I4 0) 8 Tryz.underlying34 hi hz0 hz1 hz2 rfl _ P _ rfl ho .i64 p2 d q2 _ rfl r2 n2 (by unfold maxLen;omega) (by omega) hsz ?_;intro v1 W3 ho3 hg3;have R:=And.intro (below_append hbr ho hg3) ho3;clear ho3 hg3 ho))
   go_roundw
   case rel=>exact⟨k+1,by omega,by rw[Ek.out];congr 1;omega,R.1,by rw[Ek.out,Es.out,List.map_append];exact R.2⟩
   case measure=>simp[intOf];omega
  ·have e:k=H:=by omega
   subst e
   rw[eH] at ho ⊢
   have fin:=oRe (zs:=headsL xs p d k) ho (by rw[Qa2,eH]) (Qgf _ _ _ _) (fun j hj=>QbR _ _ _ (by rw[Qa2,eH];exact hj))
   obtain⟨a,c,rfl,hr⟩:=fin
   have hn:=QaL ho
   clear ho kt
   go_wp2
   go_ret2
   exact⟨⟨_,_,rfl,hr,hn⟩,hbr⟩
def QcS (a b:List Int)(j:Nat):Int:=cZ (cZ (a.getD j 0)+cZ (b.getD j 0))
theorem QlF (a0:Option Addr)(n c0:Nat)(xs:List Int)(a1:Option Addr)(c1:Nat)(ys:List Int)(w:World)(h0:Reads .i64 w a0 n xs)(h1:Reads .i64 w a1 n ys)(hb:n*8≤281474976710656) :
  Calls Tryz.prog 93 #[.slice a0 n c0,.slice a1 n c1] w fun e w'=>(∃ a c,e=.returned (.tuple #[.slice a n c,I4 0])∧Reads .i64 w' a n ((List.range n).map (QcS xs ys))∧n≤c∧∀ x,a=some x→w.heap.size≤x.block)∧Bw w w':=by
 obtain⟨i0,hi,hz0,hz1,hz2⟩:=info_parts QaT
 have hm:=h0.max
 go_enter Tryz.func93,Tryz.ntmps93
 go_wp2_with (first|(at_make;refine wpList_make_full _ rfl (.tmp 14) (.tmp 14) 34 rfl w.heap.size 2 i0 (I4 0) 1 Tryz.underlying34 hi hz0 hz1 .i64 .i64 _ _ n rfl rfl rfl rfl (by rw[hz2];omega) (by unfold maxLen;omega) nL ?_;intro w1 hown hgrow))
 have hbel:Bw w w1:=bR.grown hgrow nL (fun k h=>by cases h)
 go_wp2
 go_loopw [18] (fun i wr=>∃ k:Nat,k≤n∧i=I4 k∧Bw w wr∧∃ cs,wr.ownsRow w.heap.size 2 1 (.slice (some ⟨w.heap.size,0,none⟩) n n) n cs∧∀ j,j<k→cs[j]? = some (I4 (QcS xs ys j))) (fun i _=>n-(intOf i).toNat)
 case atStart=>exact⟨0,Nat.zero_le _,rfl,hbel,_,hown,fun j hj=>by omega⟩
 case round =>
  obtain⟨k,hk,rfl,hbr,cs,ho,hcs⟩:=hrel
  by_cases hlt:k<n
  ·have hr:=h0.below hbr
   have hq:=h1.below hbr
   obtain⟨x,rfl⟩:=h0.some_ (by omega)
   obtain⟨y,rfl⟩:=h1.some_ (by omega)
   have cx:=hr.cell x rfl k hlt
   have cy:=hq.cell y rfl k hlt
   have hlen:=oLe ho
   have cell:wr.cell? ⟨w.heap.size,k,none⟩=cs[k]?:=ho.cellAt k (by omega)
   obtain⟨u,hu⟩:∃ u,cs[k]? = some u:=⟨cs[k],by simp[hlen,hlt]⟩
   rw[hu] at cell
   have froz:=ho.frozenAt k
   have st:=fun v=>ho.stored k v
   have step:=fun v (h:v=Value.int .i64 (QcS xs ys k))=>set_step (F:=fun j=>Value.int .i64 (QcS xs ys j)) hlen hlt h hcs
   obtain⟨X,eX⟩:∃ X,xs.getD k 0=X:=⟨_,rfl⟩
   obtain⟨Y,eY⟩:∃ Y,ys.getD k 0=Y:=⟨_,rfl⟩
   have eP:QcS xs ys k=cZ (cZ X+cZ Y):=by unfold QcS;rw[eX,eY]
   rw[eX] at cx
   rw[eY] at cy
   rw[eP] at step
   have R:Hid (Bw w (wr.setCell ⟨w.heap.size,k,none⟩ (I4 (cZ (cZ X+cZ Y))))∧∃ cs',(wr.setCell ⟨w.heap.size,k,none⟩ (I4 (cZ (cZ X+cZ Y)))).ownsRow w.heap.size 2 1 (.slice (some ⟨w.heap.size,0,none⟩) n n) n cs'∧∀ j,j<k+1→cs'[j]? = some (I4 (QcS xs ys j))) :=
    ⟨hbr.setCell nL _,_,(st _).1,step _ rfl⟩
   have bx:=cZb X
   have by_:=cZb Y
   clear eX eY eP step st hcs ho hu hlen hr hbr hq hown hgrow hbel h0 h1 hi hz0 hz1 hz2
   go_wp2
   go_region_with (go_at_call 114;refine (cCa _ _).mono ?_;rintro e w' ⟨rfl,rfl⟩)
   all_goals
    go_wp2
    go_roundw
    case rel=>exact⟨k+1,by omega,by go_num,R.out.1.drew,R.out.2⟩
    case measure=>simp[intOf];omega
  ·have e:k=n:=by omega
   subst e
   have fin:=oRa (zs:=(List.range k).map (QcS xs ys)) ho (by simp) (fun z hz=>by obtain⟨y,_,rfl⟩:=List.mem_map.1 hz;exact wCz _) (fun j hj=>by rw[hcs j hj];simp[hj])
   clear hcs ho
   go_wp2
   go_ret2
   exact⟨⟨_,_,rfl,fin,Nat.le_refl _,fun x hx=>Nat.le_of_eq (congrArg Addr.block (Option.some.inj hx))⟩,hbr⟩
def QbM (A:Nat→Option Addr)(C:Nat→Nat)(f d k:Nat):List Value:=(List.range k).map fun r=>.slice (cutA A f r) d (C r-f)
theorem Qde (A:Nat→Option Addr)(C:Nat→Nat)(f d k:Nat):QbM A C f d (k+1)=QbM A C f d k++[.slice (cutA A f k) d (C k-f)]:=by
 simp[QbM,List.range_succ]
theorem Qnu {w:World}{a:Option Addr}{n B:Nat}{A:Nat→Option Addr}{C:Nat→Nat}{R:Nat→List Int}(h:Grid w a n A C R){f d:Nat}(hd:0<d)(hr:∀ r,r<n→f+d≤(R r).length){v:Value}(ho:w.ownsRow B 34 1 v n (QbM A C f d n)) :
  ∃ b j,v=.slice b n j∧Grid w b n (cutA A f) (fun r=>C r-f) (cutR R f d):=by
 rcases ho.2 with⟨rfl,rfl⟩|⟨g,cap,cur,rfl,_,hg,hn,hm',hs,ht⟩
 ·exact⟨none,0,rfl,Qga h hd hr (fun h=>by omega) (fun x hx=>by cases hx)⟩
 ·refine⟨_,_,rfl,Qga h hd hr (fun _=>⟨_,rfl⟩) (fun x hx r hr'=>?_)⟩
  obtain rfl:=Option.some.inj hx
  exact ho.cells (g:=g) rfl r _ (by simp[QbM,hr'])
theorem QeI (a:Option Addr)(n c:Nat)(A:Nat→Option Addr)(C:Nat→Nat)(R:Nat→List Int)(f d:Nat)(w:World)(h:Grid w a n A C R)(hC:∀ r,r<n→(R r).length≤C r)(hd:0<d)(hr:∀ r,r<n→f+d≤(R r).length)(hb:n*24≤140737488351232) :
  Calls Tryz.prog 109 #[.slice a n c,I4 f,I4 d] w fun e w'=>(∃ b k,e=.returned (.slice b n k)∧Grid w' b n (cutA A f) (fun r=>C r-f) (cutR R f d))∧Bw w w':=by
 obtain⟨i0,hi,hz0,hz1,hz2⟩:=info_parts Qcl
 have hm:=h.max
 go_enter Tryz.func109,Tryz.ntmps109
 go_wp2
 go_loopw [7,8] (fun v i wr=>∃ k:Nat,k≤n∧i=I4 k∧Bw w wr∧wr.ownsRow w.heap.size 34 1 v k (QbM A C f d k)) (fun _ i _=>n-(intOf i).toNat)
 case atStart=>exact⟨0,Nat.zero_le _,rfl,Below.refl _ _,World.ownsRow_nil _ _ _ _⟩
 case round =>
  obtain⟨k,hk,rfl,hbr,ho⟩:=hrel
  by_cases hlt:k<n
  ·obtain⟨x,rfl⟩:=h.some_ (by omega)
   have rk:=h.row k hlt
   have cx:=(h.below hbr).cell x rfl k hlt
   have h1:=hr k hlt
   have h2:=hC k hlt
   have h3:=rk.max
   obtain⟨y,ey⟩:=rk.some_ (by omega)
   have eA:cutA A f k=some (y.add f):=by unfold cutA;rw[ey];rfl
   have es:=Qde A C f d k
   rw[eA] at es
   have Es:Hid _:=es
   rw[ey] at cx
   obtain⟨L,eL⟩:∃ L,(R k).length=L:=⟨_,rfl⟩
   rw[eL] at cx h1 h2 h3
   obtain⟨G,eG⟩:∃ G,C k=G:=⟨_,rfl⟩
   rw[eG] at cx h2 Es
   obtain⟨Q,eQ⟩:∃ Q,f+d=Q:=⟨_,rfl⟩
   have eQ':(f:Int)+(d:Int)=(Q:Int):=by omega
   have eQ2:Q-f=d:=by omega
   have hQ:Q≤G:=by omega
   have hP:f<Q:=by omega
   have hG:¬G=f:=by omega
   have hQ3:Q≤9223372036854775807:=by omega
   have hsz:=hbr.size
   clear eQ eG eL eA es ey rk h hr hC
   go_wp2_with (at_builtin;refine wpList_append_own _ rfl (.tmp 15) (.tmp 25) 31 rfl w.heap.size 34 i0 (.slice none 0 0) 1 24 Tryz.underlying31 hi hz0 hz1 hz2 rfl (by decide) _ _ _ rfl (ho.alloc _) ⟨_,0,none⟩ 1 1 [.slice (some (y.add f)) d (G-f)] rfl rfl (Qai _ _ _) (by simp[Value.oneCell']) (by unfold maxLen;omega) (by omega) (by simp;omega) ?_;intro v' w1 ho' hg _)
   go_roundw
   case rel =>
    refine⟨k+1,by omega,by go_num,?_,?_⟩
    ·exact (hbr.alloc hsz _).grown hg (by have:=(Below.refl w.heap.size wr).alloc hsz (.cells #[.slice (some (y.add f)) d (G-f)] 34);have:=this.size;omega) (fun g h=>(ho.lt g h).1)
    ·rw[Es.out];exact ho'
   case measure=>simp[intOf];omega
  ·have e:k=n:=by omega
   subst e
   have fin:=Qnu (h.below hbr) hd hr ho
   obtain⟨b,j,rfl,hG⟩:=fin
   clear ho
   go_wp2
   go_ret
   exact⟨⟨_,_,rfl,hG⟩,hbr⟩
theorem QgN (a0:Option Addr)(n c0:Nat)(xs:List Int)(a1:Option Addr)(c1:Nat)(ys:List Int)(w:World)(h0:Reads .i64 w a0 n xs)(h1:Reads .i64 w a1 n ys)(hb:n*8≤140737488355328) :
  Calls Tryz.prog 70 #[.slice a0 n c0,.slice a1 n c1] w fun e w'=>(∃ a c,e=.returned (.tuple #[.slice a n c,I4 0])∧Reads .i64 w' a n ((List.range n).map (QcS xs ys))∧n≤c∧∀ x,a=some x→w.heap.size≤x.block)∧Bw w w':=by
 obtain⟨i0,hi,hz0,hz1,hz2⟩:=info_parts QaT
 have hm:=h0.max
 go_enter Tryz.func70,Tryz.ntmps70
 go_wp2
 go_loopw [6,7] (fun v i wr=>∃ k:Nat,k≤n∧i=I4 k∧Bw w wr∧wr.ownsRow w.heap.size 2 1 v k (gath (QcS xs ys) .i64 k)) (fun _ i _=>n-(intOf i).toNat)
 case atStart=>exact⟨0,Nat.zero_le _,rfl,Below.refl _ _,World.ownsRow_nil _ _ _ _⟩
 case round =>
  obtain⟨k,hk,rfl,hbr,ho⟩:=hrel
  by_cases hlt:k<n
  ·have hr:=h0.below hbr
   have hq:=h1.below hbr
   obtain⟨x,rfl⟩:=h0.some_ (by omega)
   obtain⟨y,rfl⟩:=h1.some_ (by omega)
   have cx:=hr.cell x rfl k hlt
   have cy:=hq.cell y rfl k hlt
   have hsz:=hbr.size
   obtain⟨X,eX⟩:∃ X,xs.getD k 0=X:=⟨_,rfl⟩
   obtain⟨Y,eY⟩:∃ Y,ys.getD k 0=Y:=⟨_,rfl⟩
   have eP:cZ (cZ X+cZ Y)=QcS xs ys k:=by unfold QcS;rw[eX,eY]
   have Ep:Hid (cZ (cZ X+cZ Y)=QcS xs ys k):=eP
   rw[eX] at cx
   rw[eY] at cy
   have bx:=cZb X
   have by_:=cZb Y
   have ew:IntKind.i64.wrap (cZ X+cZ Y)=cZ X+cZ Y:=by rw[IntKind.wrap_i64];omega
   clear eX eY eP hr hq h0 h1
   go_wp2
   go_region_law (first
    | (with_reducible show if Region.wanted { dst:=_,op:=Op.call { callee:=Callee.value (Operand.func 73),args:=#[Operand.tmp 23],argTypes:=_ },type:=_,pos:=_,after:=_,guard:=_ } _=true then _ else _;refine Qc2 rfl 73 (.tmp 23) _ rfl Qei (I4 X) _ (by simp[Act.eval,Act.put]) (rCc _ _) ?_)
    | (with_reducible show if Region.wanted { dst:=_,op:=Op.call { callee:=Callee.value (Operand.func 73),args:=#[Operand.tmp 28],argTypes:=_ },type:=_,pos:=_,after:=_,guard:=_ } _=true then _ else _;refine Qc2 rfl 73 (.tmp 28) _ rfl Qei (I4 Y) _ (by simp[Act.eval,Act.put]) (rCc _ _) ?_)
    | (with_reducible show if Region.wanted { dst:=_,op:=Op.call { callee:=Callee.value (Operand.func 73),args:=#[Operand.tmp 30],argTypes:=_ },type:=_,pos:=_,after:=_,guard:=_ } _=true then _ else _;refine Qc2 rfl 73 (.tmp 30) _ rfl Qei (I4 (cZ X+cZ Y)) _ (by simp[Act.eval,Act.put,ew]) (rCc _ _) ?_)
    | (with_reducible show if Region.wanted { dst:=_,op:=Op.call { callee:=Callee.builtin Builtin.append,args:=_,argTypes:=_ },type:=_,pos:=_,after:=_,guard:=_ } _=true then _ else _;refine Qeo rfl (.tmp 19) (.tmp 32) 34 rfl w.heap.size 2 i0 (I4 0) 1 8 Tryz.underlying34 hi hz0 hz1 hz2 rfl (by decide) _ _ _ (by simp[Act.eval,Act.put]) (ho.alloc _).drew ⟨wr.heap.size,0,none⟩ 1 1 [I4 (cZ (cZ X+cZ Y))] (by simp[Act.eval,Act.put]) rfl (QiN _ _ _) (oOc _ _) (by unfold maxLen;omega) (by omega) (Qgo _ _ _ hsz) ?_;intro v' w1 ho' hg))
   all_goals
    have R:=aSt hsz Ep.out hbr ho ho' (Qfu hg)
    clear ho' hg ho hbr
    go_wp2
    go_roundw
    case rel=>exact⟨k+1,by omega,by go_num,R⟩
    case measure=>simp[intOf];omega
  ·have e:k=n:=by omega
   subst e
   have fin:=oRe (zs:=(List.range k).map (QcS xs ys)) ho (by simp) (fun z hz=>by obtain⟨y,_,rfl⟩:=List.mem_map.1 hz;exact wCz _) (fun j hj=>by rw[QaP _ _ _ _ hj];simp[hj])
   obtain⟨a,c,rfl,hr⟩:=fin
   have cp:Hid (_≤_):=QaL ho
   have fr:Hid (∀ x,a=some x→w.heap.size≤x.block):=fun x hx=>(ho.lt x.block (by rw[hx];rfl)).1
   clear ho
   go_wp2
   go_ret2
   exact⟨⟨_,_,rfl,hr,cp.out,fr.out⟩,hbr⟩
end Go.Proofs.YthliomlmhfjhnaaGreat

/- Texts put together. -/
import Derived.Test.YthliomlmhfjhnaaGreatRows
import Derived.Test.YthliomlmhfjhnaaGreatZf11
import Derived.Test.YthliomlmhfjhnaaGreatZf9
namespace Go.Proofs.YthliomlmhfjhnaaGreat
set_option maxRecDepth 20000
set_option maxHeartbeats 16000000
open Go.ChangeShapes Go.WideShapes Go.ChangeAt Go.RowKit
set_option linter.unusedVariables false
set_option linter.unusedSimpArgs false
section
def turnF (xs:List Int)(p:Int)(j:Nat):Int :=
 if j%2=0 then turnA (xs.getD (2*(j/2)) 0) (xs.getD (2*(j/2)+1) 0) (p*((j/2:Nat)+1)) else turnB (xs.getD (2*(j/2)) 0) (xs.getD (2*(j/2)+1) 0) (p*((j/2:Nat)+1))
def turnZ (xs:List Int)(p:Int)(n:Nat):List Int:=(List.range n).map (turnF xs p)
theorem turnF_even (xs:List Int)(p:Int)(k:Nat):turnF xs p (2*k)=turnA (xs.getD (2*k) 0) (xs.getD (2*k+1) 0) (p*(k+1)):=by
 unfold turnF
 rw[if_pos (by omega),show 2*k/2=k by omega]
theorem turnF_odd (xs:List Int)(p:Int)(k:Nat):turnF xs p (2*k+1)=turnB (xs.getD (2*k) 0) (xs.getD (2*k+1) 0) (p*(k+1)):=by
 unfold turnF
 rw[if_neg (by omega),show (2*k+1)/2=k by omega]
theorem wf_turnF (xs:List Int)(p:Int)(j:Nat):(Lit.int .i64 (turnF xs p j)).wf=true:=by
 unfold turnF
 split
 ·exact wf_clampZ _
 ·exact wf_clampZ _
theorem pair_step {W:World}{B n i:Nat}{cs:List Value}{F:Nat→Int}{A C:Int}(hs:W.ownsRow B 2 1 (.slice (some ⟨B,0,none⟩) n n) n cs)(hi:i+1<n)
  (hcs:∀ j,j<i→cs[j]? = some (.int .i64 (F j))) (hA:Value.int .i64 A=.int .i64 (F i)) (hC:Value.int .i64 C=.int .i64 (F (i+1))) :
  ∃ u u',W.cell? ⟨B,i,none⟩=some u∧W.frozen? ⟨B,i,none⟩=false∧(W.setCell ⟨B,i,none⟩ (.int .i64 A)).cell? ⟨B,i+1,none⟩=some u'∧(W.setCell ⟨B,i,none⟩ (.int .i64 A)).frozen? ⟨B,i+1,none⟩=false ∧
   ∃ cs',((W.setCell ⟨B,i,none⟩ (.int .i64 A)).setCell ⟨B,i+1,none⟩ (.int .i64 C)).ownsRow B 2 1 (.slice (some ⟨B,0,none⟩) n n) n cs'∧∀ j,j<i+2→cs'[j]? = some (.int .i64 (F j)):=by
 have hlen:=own_length hs
 have s1:=(hs.stored i (.int .i64 A)).1
 have hlen1:=own_length s1
 have s2:=(s1.stored (i+1) (.int .i64 C)).1
 have g1:=set_step (F:=fun j=>Value.int .i64 (F j)) hlen (by omega) hA hcs
 have g2:=set_step (F:=fun j=>Value.int .i64 (F j)) hlen1 hi hC g1
 refine⟨cs[i],_,(hs.cellAt i (by omega)).trans (by simp),hs.frozenAt i,(s1.cellAt (i+1) (by omega)).trans (List.getElem?_eq_getElem (by omega)),s1.frozenAt (i+1),_,s2,g2⟩
theorem turn_ok (a0:Option Addr)(h c0:Nat)(xs:List Int)(p:Int)(w:World)(h0:Reads .i64 w a0 (2*h) xs)(hp:0≤p∧p≤1000)(hb:2*h*8≤281474976710656) :
  Calls Tryz.prog 117 #[.slice a0 (2*h) c0,.int .i64 p] w fun e w'=>(∃ a c,e=.returned (.tuple #[.slice a (2*h) c,.int .i64 0])∧Reads .i64 w' a (2*h) (turnZ xs p (2*h))∧(a=none→c=0))∧Below w.heap.size w w':=by
 obtain⟨i0,hi,hz0,hz1,hz2⟩:=info_parts info2
 obtain⟨p0,p1⟩:=hp
 have hm:=h0.max
 obtain⟨n,en⟩:∃ n,2*h=n:=⟨_,rfl⟩
 rw[en] at h0 hb hm ⊢
 have ev:((n:Int)%2==0)=true:=by simp;omega
 have hf:(n:Int)/2=(h:Int):=by omega
 unfold turnZ
 go_enter Tryz.func117,Tryz.ntmps117
 go_wp2_with (first
  | (at_make;refine wpList_make_full _ rfl (.tmp 19) (.tmp 19) 34 rfl w.heap.size 2 i0 (.int .i64 0) 1 Tryz.underlying34 hi hz0 hz1 .i64 .i64 _ _ n rfl rfl rfl rfl (by rw[hz2];omega) (by unfold maxLen;omega) (Nat.le_refl _) ?_;intro w1 hown hgrow))
 have hbel:Below w.heap.size w w1:=(Below.refl _ _).grown hgrow (Nat.le_refl _) (fun k h=>by cases h)
 go_wp2
 go_loopw [24] (fun i wr=>∃ k:Nat,k≤h∧i=.int .i64 k∧Below w.heap.size w wr∧∃ cs,wr.ownsRow w.heap.size 2 1 (.slice (some ⟨w.heap.size,0,none⟩) n n) n cs∧∀ j,j<2*k→cs[j]? = some (.int .i64 (turnF xs p j))) (fun i _=>h-(intOf i).toNat)
 case atStart=>exact⟨0,Nat.zero_le _,rfl,hbel,_,hown,fun j hj=>by omega⟩
 case round =>
  obtain⟨k,hk,rfl,hbr,cs,ho,hcs⟩:=hrel
  by_cases hlt:k<h
  ·have hr:=h0.below hbr
   obtain⟨x,rfl⟩:=h0.some_ (by omega)
   have cx:=hr.cell x rfl (2*k) (by omega)
   have cy:=hr.cell x rfl (2*k+1) (by omega)
   have wx:=h0.wf (2*k)
   have wy:=h0.wf (2*k+1)
   have hlen:=own_length ho
   have eA:=turnF_even xs p k
   have eB:=turnF_odd xs p k
   have m0:0≤p*((k:Int)+1):=Int.mul_nonneg p0 (by omega)
   have m1:p*((k:Int)+1)≤1000*((k:Int)+1):=Int.mul_le_mul_of_nonneg_right p1 (by omega)
   obtain⟨M,eM⟩:∃ M,p*((k:Int)+1)=M:=⟨_,rfl⟩
   rw[eM] at m0 m1 eA eB
   obtain⟨X,eX⟩:∃ X,xs.getD (2*k) 0=X:=⟨_,rfl⟩
   obtain⟨Y,eY⟩:∃ Y,xs.getD (2*k+1) 0=Y:=⟨_,rfl⟩
   rw[eX] at cx wx
   rw[eY] at cy wy
   rw[eX,eY] at eA eB
   have kt:=fun W=>turned_call X Y M wx wy W
   rw[←eA,←eB] at kt
   obtain⟨A,eA'⟩:∃ A,turnF xs p (2*k)=A:=⟨_,rfl⟩
   obtain⟨B,eB'⟩:∃ B,turnF xs p (2*k+1)=B:=⟨_,rfl⟩
   rw[eA',eB'] at kt
   have step:=fun (W:World) (hs:W.ownsRow w.heap.size 2 1 (.slice (some ⟨w.heap.size,0,none⟩) n n) n cs) =>
    pair_step hs (i:=2*k) (by omega) (fun j hj=>hcs j hj) (A:=A) (C:=B) (by rw[eA']) (by rw[eB'])
   obtain⟨i,ei⟩:∃ i,2*k=i:=⟨_,rfl⟩
   have ik:2*(k:Int)=(i:Int):=by omega
   have hin:i+1<n:=by omega
   rw[ei] at cx cy
   rw[ei] at step
   obtain⟨i',ei'⟩:∃ i',i+1=i':=⟨_,rfl⟩
   rw[ei'] at cy step hin
   have ik':(i:Int)+1=(i':Int):=by omega
   have Ei':Hid (i+2=2*(k+1)):=show i+2=2*(k+1) by omega
   have Ei:Hid (2*k=i):=ei
   have v0:IntKind.i64.wrap (i:Int)=i:=by rw[IntKind.wrap_i64];omega
   have v1:IntKind.i64.wrap (i':Int)=i':=by rw[IntKind.wrap_i64];omega
   have v2:IntKind.i64.wrap ((k:Int)+1)=(k:Int)+1:=by rw[IntKind.wrap_i64];omega
   have v3:IntKind.i64.wrap M=M:=by rw[IntKind.wrap_i64];omega
   have key:∀ W2,Below wr.drew.heap.size wr.drew W2→∃ u u',W2.cell? ⟨w.heap.size,i,none⟩=some u∧W2.frozen? ⟨w.heap.size,i,none⟩=false∧(W2.setCell ⟨w.heap.size,i,none⟩ (.int .i64 A)).cell? ⟨w.heap.size,i',none⟩=some u'∧(W2.setCell ⟨w.heap.size,i,none⟩ (.int .i64 A)).frozen? ⟨w.heap.size,i',none⟩=false ∧
     Hid (Below w.heap.size w ((W2.setCell ⟨w.heap.size,i,none⟩ (.int .i64 A)).setCell ⟨w.heap.size,i',none⟩ (.int .i64 B))∧∃ cs',((W2.setCell ⟨w.heap.size,i,none⟩ (.int .i64 A)).setCell ⟨w.heap.size,i',none⟩ (.int .i64 B)).ownsRow w.heap.size 2 1 (.slice (some ⟨w.heap.size,0,none⟩) n n) n cs'∧∀ j,j<i+2→cs'[j]? = some (.int .i64 (turnF xs p j))):=by
    intro W2 hb2'
    have hb2:Below wr.heap.size wr W2:=⟨hb2'.os,hb2'.tape,hb2'.output,hb2'.size,hb2'.block⟩
    obtain⟨u,u',c2,f2,c3,f3,R'⟩:=step W2 (own_below ho hb2)
    exact⟨u,u',c2,f2,c3,f3,((bTn hbr hb2).setCell (Nat.le_refl _) _).setCell (Nat.le_refl _) _,R'⟩
   clear step ho hbr
   clear ei ei' eA eB eA' eB' eX eY hcs hr hown hgrow hbel hi hz0 hz1 hz2 h0 hf ev en
   go_wp2
   go_region_with (first
    | (go_at_call 132;refine (kt _).mono ?_;rintro e W2 ⟨rfl,hb2⟩;obtain⟨u,u',c2,f2,c3,f3,R⟩:=key W2 hb2;clear hb2))
   all_goals
    go_wp2
    go_roundw
    case rel=>exact⟨k+1,by omega,by go_num,R.out.1,by rw[←Ei'.out];exact R.out.2⟩
    case measure=>simp[intOf];omega
  ·have e:k=h:=by omega
   subst e
   have fin:=own_reads_at (zs:=(List.range n).map (turnF xs p)) ho (by simp) (fun z hz=>by obtain⟨y,_,rfl⟩:=List.mem_map.1 hz;exact wf_turnF _ _ _) (fun j hj=>by rw[hcs j (by omega)];simp[hj])
   clear hcs ho
   go_wp2
   go_ret2
   exact⟨⟨_,_,rfl,fin,fun h=>by cases h⟩,hbr⟩
end
section
def headsL (xs:List Int)(p:Int)(d:Nat):Nat→List Int
 | 0=>[]
 | m+1=>headsL xs p d m++turnZ ((xs.drop (m*d)).take d) p d
theorem turnZ_length (xs:List Int)(p:Int)(n:Nat):(turnZ xs p n).length=n:=by simp[turnZ]
theorem headsL_length (xs:List Int)(p:Int)(d m:Nat):(headsL xs p d m).length=m*d:=by
 induction m with
 | zero=>simp[headsL]
 | succ m ih=>rw[headsL,List.length_append,ih,turnZ_length,Nat.succ_mul]
theorem wf_turnZ (xs:List Int)(p:Int)(n:Nat):∀ z∈turnZ xs p n,(Lit.int .i64 z).wf=true:=fun z hz=>by
 obtain⟨y,_,rfl⟩:=List.mem_map.1 hz
 exact wf_turnF _ _ _
theorem wf_headsL (xs:List Int)(p:Int)(d m:Nat):∀ z∈headsL xs p d m,(Lit.int .i64 z).wf=true:=by
 induction m with
 | zero=>intro z hz;simp[headsL] at hz
 | succ m ih =>
  intro z hz
  rw[headsL,List.mem_append] at hz
  rcases hz with h|h
  ·exact ih z h
  ·exact wf_turnZ _ _ _ z h
theorem splits_call (n H:Nat)(hH:0<H)(hm:n≤9223372036854775807)(w:World) :
  Calls Tryz.prog 116 #[.int .i64 n,.int .i64 H] w fun e w'=>e=.returned (.bool (decide (n%H=0∧n/H%2=0)))∧w'=w:=by
 have z:((H:Int)==0)=false:=by simp;omega
 obtain⟨r,er⟩:∃ r,n%H=r:=⟨_,rfl⟩
 obtain⟨d,ed⟩:∃ d,n/H=d:=⟨_,rfl⟩
 have er':(n:Int)%(H:Int)=(r:Int):=by rw[←er];simp
 have ed':(n:Int)/(H:Int)=(d:Int):=by rw[←ed];simp
 have hd:d≤n:=by rw[←ed];exact Nat.div_le_self _ _
 rw[er,ed]
 clear er ed
 go_enter Tryz.func116,Tryz.ntmps116
 go_wp2
 ·have h:r=0:=by assumption
  go_ret
  refine⟨?_,rfl⟩
  by_cases e:d%2=0
  ·have e':((d:Int)%2==0)=true:=by simp;omega
   simp[h,e,e']
  ·have e':((d:Int)%2==0)=false:=by simp;omega
   simp[e,e']
 ·have h:¬r=0:=by assumption
  go_ret
  exact⟨by simp[h],rfl⟩
theorem turn_fine (a0:Option Addr)(n c0:Nat)(xs:List Int)(p:Int)(w:World)(h0:Reads .i64 w a0 n xs)(hn:n%2=0)(hp:0≤p∧p≤1000)(hb:n*8≤281474976710656) :
  Calls Tryz.prog 117 #[.slice a0 n c0,.int .i64 p] w fun e w'=>(∃ a c,e=.returned (.tuple #[.slice a n c,.int .i64 0])∧Reads .i64 w' a n (turnZ xs p n)∧(a=none→c=0))∧Below w.heap.size w w':=by
 obtain⟨k,rfl⟩:∃ k,n=2*k:=⟨n/2,by omega⟩
 exact turn_ok _ _ _ _ _ _ h0 hp hb
theorem part_reads {w:World}{x:Addr}{n:Nat}{xs:List Int}(h:Reads .i64 w (some x) n xs){H d m:Nat}(e:H*d=n)(hm:m<H):m*d+d≤n∧Reads .i64 w (some (x.add (m*d))) d ((xs.drop (m*d)).take d):=by
 have h1:(m+1)*d≤H*d:=Nat.mul_le_mul_right d hm
 rw[Nat.succ_mul,e] at h1
 exact⟨h1,h.cut _ _ h1⟩
theorem heads_ok (x:Addr)(n c0 H:Nat)(xs:List Int)(p:Int)(w:World)(h0:Reads .i64 w (some x) n xs)(l0:n≤c0)(hH:0<H)(hn:0<n)(h:n%H=0∧n/H%2=0)(hp:0≤p∧p≤1000)(hb:n*8≤140737488355328) :
  Calls Tryz.prog 95 #[.slice (some x) n c0,.int .i64 H,.int .i64 p] w fun e w'=>(∃ a c,e=.returned (.tuple #[.slice a n c,.int .i64 0])∧Reads .i64 w' a n (headsL xs p (n/H) H)∧n≤c)∧Below w.heap.size w w':=by
 obtain⟨i0,hi,hz0,hz1,hz2⟩:=info_parts info2
 have hm:=h0.max
 have ks:=splits_call n H hH hm w
 rw[decide_eq_true h] at ks
 obtain⟨d,ed⟩:∃ d,n/H=d:=⟨_,rfl⟩
 have ed':(n:Int)/(H:Int)=(d:Int):=by rw[←ed];simp
 have eH:H*d=n:=by rw[←ed,Nat.mul_comm];exact Nat.div_mul_cancel (Nat.dvd_of_mod_eq_zero h.1)
 rw[ed] at h ⊢
 have d2:=h.2
 have d0:0<d:=by
  rcases Nat.eq_zero_or_pos d with r|r
  ·subst r;simp at eH;omega
  ·exact r
 have hdn:d≤n:=by rw[←ed];exact Nat.div_le_self _ _
 clear h ed
 have z:((H:Int)==0)=false:=by simp;omega
 have zn:((n:Int)==0)=false:=by simp;omega
 have kt:=fun (W:World) a c ys (h:Reads .i64 W a d ys) (hd:d*8≤281474976710656)=>turn_fine a d c ys p W h d2 hp hd
 go_enter Tryz.func95,Tryz.ntmps95
 go_wp2_with (first
  | (go_at_call 116;refine ks.mono ?_;rintro e w' ⟨rfl,h⟩;obtain rfl:=h.symm)
  | (at_make;refine wpList_make_own _ rfl _ (.tmp 28) 34 rfl w.heap.size 2 i0 (.int .i64 0) 1 Tryz.underlying34 hi hz0 hz1 .i64 .i64 _ n rfl rfl rfl (by rw[hz2];omega) (by unfold maxLen;omega) (Nat.le_refl _) ?_;intro w1 hown hgrow))
 have hbel:Below w.heap.size w w1:=(Below.refl _ _).grown hgrow (Nat.le_refl _) (fun k h=>by cases h)
 go_wp2
 go_loopw [8,10] (fun v i wr=>∃ k:Nat,k≤H∧i=.int .i64 ((k*d:Nat):Int)∧Below w.heap.size w wr∧wr.ownsRow w.heap.size 2 1 v (k*d) ((headsL xs p d k).map (Value.int .i64))) (fun _ i _=>n-(intOf i).toNat)
 case atStart=>exact⟨0,Nat.zero_le _,by simp,hbel,by simpa [headsL] using hown⟩
 case round =>
  clear hown hgrow hbel
  obtain⟨k,hk,rfl,hbr,ho⟩:=hrel
  by_cases hlt:k<H
  ·obtain⟨hq,hr⟩:=part_reads (h0.below hbr) eH hlt
   have es:headsL xs p d (k+1)=headsL xs p d k++turnZ ((xs.drop (k*d)).take d) p d:=rfl
   have ek:(k+1)*d=k*d+d:=Nat.succ_mul k d
   obtain⟨ys,ey⟩:∃ ys,(xs.drop (k*d)).take d=ys:=⟨_,rfl⟩
   obtain⟨P,eP⟩:∃ P,k*d=P:=⟨_,rfl⟩
   rw[ey] at hr es
   rw[eP] at hr hq ek ho ⊢
   have Es:Hid (headsL xs p d (k+1)=headsL xs p d k++turnZ ys p d):=es
   have Ek:Hid ((k+1)*d=P+d):=ek
   obtain⟨Q,eQ⟩:∃ Q,P+d=Q:=⟨_,rfl⟩
   have eQ':(P:Int)+(d:Int)=(Q:Int):=by omega
   have eQ2:Q-P=d:=by omega
   have hQ:Q≤n:=by omega
   have hP:P<Q:=by omega
   clear ey eP es ek h0 ks eH hk eQ
   go_wp2_with (first
    | (go_at_call 117;refine (kt _ _ _ _ hr (by omega)).mono ?_;rintro e W2 ⟨⟨p2,q2,rfl,r2,n2⟩,hb2⟩;replace ho:=own_below ho hb2;replace hbr:=bTn hbr hb2;clear hb2 hr;have hsz:=hbr.size)
    | (at_builtin;refine wpList_copy rfl (.tmp 55) (.tmp 56) 34 rfl w.heap.size 2 i0 (.int .i64 0) 8 Tryz.underlying34 hi hz0 hz1 hz2 rfl _ P _ rfl ho .i64 p2 d q2 _ rfl r2 n2 (by unfold maxLen;omega) (by omega) hsz ?_;intro v1 W3 ho3 hg3;have R:=And.intro (below_append hbr ho hg3) ho3;clear ho3 hg3 ho))
   go_roundw
   case rel=>exact⟨k+1,by omega,by rw[Ek.out];congr 1;omega,R.1,by rw[Ek.out,Es.out,List.map_append];exact R.2⟩
   case measure=>simp[intOf];omega
  ·have e:k=H:=by omega
   subst e
   rw[eH] at ho ⊢
   have fin:=own_reads (zs:=headsL xs p d k) ho (by rw[headsL_length,eH]) (wf_headsL _ _ _ _) (fun j hj=>copy_at _ _ _ (by rw[headsL_length,eH];exact hj))
   obtain⟨a,c,rfl,hr⟩:=fin
   have hn:=own_cap ho
   clear ho kt
   go_wp2
   go_ret2
   exact⟨⟨_,_,rfl,hr,hn⟩,hbr⟩
end
end Go.Proofs.YthliomlmhfjhnaaGreat

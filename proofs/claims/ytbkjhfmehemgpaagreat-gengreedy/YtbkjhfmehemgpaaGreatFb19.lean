/- Texts put together. -/
import Derived.Test.YtbkjhfmehemgpaaGreatFb9
namespace Go.Proofs.YtbkjhfmehemgpaaGreat
set_option maxRecDepth 20000
set_option maxHeartbeats 16000000
open Go.ChangeShapes Go.WideShapes Go.ChangeAt Go.RowKit
set_option linter.unusedVariables false
set_option linter.unusedSimpArgs false
def rowZ (ws:List Int)(d:Nat)(xs:List Int)(i:Nat):Int:=dotZ ((ws.drop (i*d)).take d) xs 6
theorem mat_fits (a0:Option Addr)(n c0:Nat)(ws:List Int)(R:Nat)(a2:Option Addr)(d c2:Nat)(xs:List Int)(w:World)
  (h0:Reads .i8 w a0 n ws) (hc:n≤c0) (h2:Reads .i64 w a2 d xs) (hd:0<d) (hn:n=R*d) (hb:R*8≤281474976710656) :
  Calls Tryz.prog 157 #[.slice a0 n c0,.int .i64 R,.slice a2 d c2] w fun e w'=>(∃ a c cs,e=.returned (.tuple #[.slice a R c,.int .i64 0])∧Reads .i64 w' a R ((List.range R).map (rowZ ws d xs))∧a=some ⟨w.heap.size,0,none⟩∧c=R∧w'.ownsRow w.heap.size 2 1 (.slice a R c) R cs∧∀ j,j<R→cs[j]? = some (.int .i64 (rowZ ws d xs j)))∧Below w.heap.size w w':=by
 obtain⟨i0,hi,hz0,hz1,hz2⟩:=info_parts info2
 have hm:=h0.max
 have hm2:=h2.max
 have hf:decide (0<d∧n%d=0∧((n/d:Nat):Int)=(R:Int))=true:=by
  subst hn
  simp[hd,Nat.mul_div_cancel R hd]
 have Hn:Hid (n=R*d):=hn
 clear hn
 have hR:(Lit.int .i64 (R:Int)).wf=true:=WalkArith.wf_i64 ⟨by omega,by omega⟩
 have kf:∀ W,Calls Tryz.prog 191 #[.int .i64 n,.int .i64 R,.int .i64 d] W fun e w'=>e=.returned (.bool true)∧w'=W:=fun W=>by
  have:=fits_call n d R hm hm2 hR W
  rwa [hf] at this
 clear hf
 go_enter Tryz.func157,Tryz.ntmps157
 go_wp2_with (first|(go_at_call 191;refine (kf _).mono ?_;rintro e w' ⟨rfl,h⟩;obtain rfl:=h.symm)|(at_make;refine wpList_make_full _ rfl (.tmp 19) (.tmp 19) 70 rfl w.heap.size 2 i0 (.int .i64 0) 1 Tryz.underlying70 hi hz0 hz1 .i64 .i64 _ _ R rfl rfl rfl rfl (by rw[hz2];omega) (by unfold maxLen;omega) (Nat.le_refl _) ?_;intro w1 hown hgrow))
 have hbel:Below w.heap.size w w1:=(Below.refl _ _).grown hgrow (Nat.le_refl _) (fun k h=>by cases h)
 go_wp2
 go_loopw [23] (fun i wr=>∃ k:Nat,k≤R∧i=.int .i64 k∧Below w.heap.size w wr∧∃ cs,wr.ownsRow w.heap.size 2 1 (.slice (some ⟨w.heap.size,0,none⟩) R R) R cs∧∀ j,j<k→cs[j]? = some (.int .i64 (rowZ ws d xs j))) (fun i _=>R-(intOf i).toNat)
 case atStart=>exact⟨0,Nat.zero_le _,rfl,hbel,_,hown,fun j hj=>by omega⟩
 case round =>
  obtain⟨k,hk,rfl,hbr,cs,ho,hcs⟩:=hrel
  by_cases hlt:k<R
  ·obtain⟨p,ep⟩:∃ p,k*d=p:=⟨_,rfl⟩
   have eq:(k+1)*d=p+d:=by rw[Nat.add_mul,ep];omega
   have hq:p+d≤n:=by rw[Hn.out,←eq];exact Nat.mul_le_mul_right d (by omega)
   have ip:(k:Int)*(d:Int)=(p:Int):=by rw[←ep];simp
   have iq:((k:Int)+1)*(d:Int)=((p+d:Nat):Int):=by rw[←eq];simp
   obtain⟨q,eq'⟩:∃ q,p+d=q:=⟨_,rfl⟩
   rw[eq'] at iq
   have hr0:=h0.below hbr
   have hr2:=h2.below hbr
   obtain⟨x,rfl⟩:=h0.some_ (by omega)
   have hcut:=hr0.cut p d hq
   have hlen:=oLe ho
   have cell:wr.cell? ⟨w.heap.size,k,none⟩=cs[k]?:=ho.cellAt k (by omega)
   obtain⟨u,hu⟩:∃ u,cs[k]? = some u:=⟨cs[k],by simp[hlen,hlt]⟩
   rw[hu] at cell
   have froz:=ho.frozenAt k
   have st:=fun v=>ho.stored k v
   have step:=fun v (h:v=Value.int .i64 (rowZ ws d xs k))=>set_step (F:=fun j=>Value.int .i64 (rowZ ws d xs j)) hlen hlt h hcs
   have eV:rowZ ws d xs k=dotZ ((ws.drop p).take d) xs 6:=by unfold rowZ;rw[ep]
   obtain⟨V,eV'⟩:∃ V,dotZ ((ws.drop p).take d) xs 6=V:=⟨_,rfl⟩
   rw[eV,eV'] at step
   have kp:Calls Tryz.prog 192 #[.slice (some (x.add p)) d d,.slice a2 d c2,.int .i64 6] wr fun e w'=>e=.returned (.int .i64 V)∧∃ m,w'=wr.drewN m:=by
    rw[←eV']
    exact products8_call _ _ _ _ _ _ _ _ _ hcut hr2 (by decide)
   have hsub:q-p=d:=by omega
   have hne:¬q=p:=by omega
   have hpq:(p:Int)≤(q:Int):=by omega
   have hqc:(q:Int)≤(c0:Int):=by omega
   have hqm:(q:Int)≤9223372036854775807:=by omega
   have R':Hid (∀ m,Below w.heap.size w ((wr.drewN m).setCell ⟨w.heap.size,k,none⟩ (.int .i64 V))∧∃ cs',((wr.drewN m).setCell ⟨w.heap.size,k,none⟩ (.int .i64 V)).ownsRow w.heap.size 2 1 (.slice (some ⟨w.heap.size,0,none⟩) R R) R cs'∧∀ j,j<k+1→cs'[j]? = some (.int .i64 (rowZ ws d xs j))) :=
    fun m=>⟨(bDr hbr ⟨m,rfl⟩).setCell (Nat.le_refl _) _,_,(st _).1,step _ rfl⟩
   clear eq eq' ep eV eV' step st hcs ho hu hlen hr0 hr2 hbr hcut kf hown hgrow hbel h0 h2 hi hz0 hz1 hz2 hR
   go_wp2_with (go_at_call 192;refine kp.mono ?_;rintro e w' ⟨rfl,m,rfl⟩)
   go_roundw
   case rel=>exact⟨k+1,by omega,by go_num,R'.out m⟩
   case measure=>simp[intOf];omega
  ·have e:k=R:=by omega
   subst e
   have fin:=oRa (zs:=(List.range k).map (rowZ ws d xs)) ho (by simp) (fun z hz=>by obtain⟨y,_,rfl⟩:=List.mem_map.1 hz;exact wCz _) (fun j hj=>by rw[hcs j hj];simp[hj])
   have HO:=hdn (And.intro ho hcs)
   clear hcs ho
   go_wp2
   go_ret2
   exact⟨⟨_,_,_,rfl,fin,rfl,rfl,HO.out.1,HO.out.2⟩,hbr⟩
def fitB (n:Nat)(r:Int)(d:Nat):Bool:=decide (0<d∧n%d=0∧((n/d:Nat):Int)=r)
def matL (ws xs:List Int):List Int:=(List.range (ws.length/xs.length)).map (rowZ ws xs.length xs)
def hidL (up xs:List Int):List Int:=(matL up xs).map siluZ
def oneB (up down:List Int)(h:Int)(xs:List Int):Bool:=fitB up.length h xs.length && fitB down.length (xs.length:Int) (hidL up xs).length
def oneL (up down xs:List Int):List Int:=matL down (hidL up xs)
theorem matL_length (ws xs:List Int):(matL ws xs).length=ws.length/xs.length:=by simp[matL]
theorem hidL_length (up xs:List Int):(hidL up xs).length=up.length/xs.length:=by simp[hidL,matL]
theorem fitB_yes {n d:Nat}{r:Int}(h:fitB n r d=true):0<d∧n=n/d*d∧r=((n/d:Nat):Int):=by
 obtain⟨h1,h2,h3⟩:=of_decide_eq_true h
 have:=Nat.div_add_mod n d
 rw[h2,Nat.mul_comm] at this
 exact⟨h1,by omega,h3.symm⟩
theorem oneL_length {up down xs:List Int}{h:Int}(hb:oneB up down h xs=true):(oneL up down xs).length=xs.length:=by
 unfold oneB at hb
 rw[Bool.and_eq_true] at hb
 have:=(fitB_yes hb.2).2.2
 unfold oneL
 rw[matL_length]
 omega
theorem matL_at (ws xs:List Int)(j:Nat)(h:j<ws.length/xs.length):(matL ws xs).getD j 0=rowZ ws xs.length xs j:=by
 simp[matL,List.getD,h]
theorem hidL_at (up xs:List Int)(j:Nat)(h:j<up.length/xs.length):(hidL up xs).getD j 0=siluZ (rowZ up xs.length xs j):=by
 simp[hidL,matL,List.getD,h]
theorem matL_bounds (ws xs:List Int)(j:Nat):-2147483648≤(matL ws xs).getD j 0∧(matL ws xs).getD j 0≤2147483647:=by
 by_cases h:j<ws.length/xs.length
 ·rw[matL_at _ _ _ h]
  exact cZb _
 ·have e:(matL ws xs).getD j 0=0:=by simp[matL,List.getD,h]
  rw[e]
  omega
def plc (router xs:List Int)(j:Nat):Nat:=(places (matL router xs)).getD j 0
def chosenL (router:List Int)(K:Nat)(xs:List Int):List Int:=(List.range K).map fun j=>(matL router xs).getD (plc router xs j) 0
def routeP (router:List Int)(k:Int)(xs:List Int):List Int:=pickZ (matL router xs) k
def routeS (router:List Int)(k:Int)(xs:List Int):List Int:=softZ (chosenL router k.toNat xs) k.toNat
def routeE (router:List Int)(E k:Int)(xs:List Int):Int:=if k<1∨E<k then 20 else if fitB router.length E xs.length then 0 else 21
def routeB (router:List Int)(E k:Int)(xs:List Int):Bool:=decide (1≤k) && decide (k≤E) && fitB router.length E xs.length
theorem routeE_no {router xs:List Int}{E k:Int}(h:routeB router E k xs=false):routeE router E k xs=20∨routeE router E k xs=21:=by
 unfold routeE
 by_cases h1:k<1∨E<k
 ·rw[if_pos h1];exact .inl rfl
 ·rw[if_neg h1]
  cases hf:fitB router.length E xs.length with
  | true =>
   exfalso
   unfold routeB at h
   rw[hf,decide_eq_true (by omega:1≤k),decide_eq_true (by omega:k≤E)] at h
   cases h
  | false=>exact .inr rfl
theorem routeE_ne {router xs:List Int}{E k:Int}(h:routeB router E k xs=false):¬routeE router E k xs=0:=by
 rcases routeE_no h with e|e<;>rw[e]<;>decide
theorem plc_lt {router xs:List Int}{E k:Int}(h:routeB router E k xs=true){j:Nat}(hj:j<k.toNat):((plc router xs j:Nat):Int)<E:=by
 unfold routeB at h
 simp only[Bool.and_eq_true,decide_eq_true_eq] at h
 have hE:=(fitB_yes h.2).2.2
 have hl:=matL_length router xs
 have:=(places_ordered (matL router xs)).lt (m:=j) (by omega)
 unfold plc
 omega
theorem routeP_at {router xs:List Int}{E k:Int}(h:routeB router E k xs=true){j:Nat}(hj:j<k.toNat):(routeP router k xs).getD j 0=(plc router xs j:Nat):=by
 unfold routeB at h
 simp only[Bool.and_eq_true,decide_eq_true_eq] at h
 have hE:=(fitB_yes h.2).2.2
 have hl:=matL_length router xs
 exact topZ_at _ _ _ (by omega)
theorem shareF_bounds (z:List Int)(t S:Int)(j:Nat):-2147483648≤shareF z t S j∧shareF z t S j≤2147483647:=by
 unfold shareF divZ
 split
 ·unfold noughtZ
  repeat' split
  all_goals omega
 ·exact cZb _
theorem routeS_bounds (router:List Int)(k:Int)(xs:List Int)(j:Nat):-2147483648≤(routeS router k xs).getD j 0∧(routeS router k xs).getD j 0≤2147483647:=by
 unfold routeS softZ
 by_cases h:j<k.toNat
 ·have e:∀ f:Nat→Int,((List.range k.toNat).map f).getD j 0=f j:=fun f=>by simp[List.getD,h]
  rw[e]
  exact shareF_bounds _ _ _ _
 ·have e:∀ f:Nat→Int,((List.range k.toNat).map f).getD j 0=0:=fun f=>by simp[List.getD,h]
  rw[e]
  omega
def blendTo (sh:Nat→Int)(ro:Nat→List Int)(i:Nat):Nat→Int
 | 0=>0
 | k+1=>addZ (blendTo sh ro i k) (sh k*(ro k).getD i 0)
def blendZ (sh:Nat→Int)(ro:Nat→List Int)(K:Nat)(i:Nat):Int:=cZ (shiftZ (blendTo sh ro i K) 16)
theorem wf_blendTo (sh:Nat→Int)(ro:Nat→List Int)(i k:Nat):(Lit.int .i64 (blendTo sh ro i k)).wf=true:=by
 cases k with
 | zero=>show (Lit.int .i64 0).wf=true;decide
 | succ k=>exact wf_addZ _ _
def rowsL (router:List Int)(U D:Nat→List Int)(xs:List Int)(j:Nat):List Int:=oneL (U (plc router xs j)) (D (plc router xs j)) xs
def restB (router:List Int)(U D:Nat→List Int)(h:Int)(K:Nat)(xs:List Int):Bool:=(List.range K).all fun j=>oneB (U (plc router xs j)) (D (plc router xs j)) h xs
def sh (router:List Int)(k:Int)(xs:List Int)(j:Nat):Int:=(routeS router k xs).getD j 0
def sumL (router:List Int)(U D:Nat→List Int)(k:Int)(xs:List Int):List Int:=(List.range xs.length).map (blendZ (sh router k xs) (rowsL router U D xs) k.toNat)
def mixE (router:List Int)(n m:Nat)(U D:Nat→List Int)(h k:Int)(xs:List Int):Int :=
 if n=0∨n≠m then 21 else if n=1 then (if oneB (U 0) (D 0) h xs then 0 else 21)
 else if routeB router n k xs=false then routeE router n k xs else if restB router U D h k.toNat xs then 0 else 21
def mixL (router:List Int)(n:Nat)(U D:Nat→List Int)(k:Int)(xs:List Int):List Int:=if n=1 then oneL (U 0) (D 0) xs else sumL router U D k xs
theorem restB_yes {router:List Int}{U D:Nat→List Int}{h:Int}{K:Nat}{xs:List Int}(hb:restB router U D h K xs=true){j:Nat}(hj:j<K):oneB (U (plc router xs j)) (D (plc router xs j)) h xs=true :=
 List.all_eq_true.1 hb j (List.mem_range.2 hj)
theorem sumL_length (router:List Int)(U D:Nat→List Int)(k:Int)(xs:List Int):(sumL router U D k xs).length=xs.length:=by simp[sumL]
theorem sumL_at (router:List Int)(U D:Nat→List Int)(k:Int)(xs:List Int)(i:Nat)(h:i<xs.length):(sumL router U D k xs).getD i 0=blendZ (sh router k xs) (rowsL router U D xs) k.toNat i:=by simp[sumL,List.getD,h]
theorem wf_sumL (router:List Int)(U D:Nat→List Int)(k:Int)(xs:List Int):∀ z∈sumL router U D k xs,(Lit.int .i64 z).wf=true:=by
 intro z hz
 obtain⟨y,_,rfl⟩:=List.mem_map.1 hz
 exact wCz _
theorem mat_not (a0:Option Addr)(n c0:Nat)(r:Int)(a2:Option Addr)(d c2:Nat)(w:World)(hm:n≤9223372036854775807)(hm2:d≤9223372036854775807)(hr:(Lit.int .i64 r).wf=true)
  (h:¬(0<d∧n%d=0∧((n/d:Nat):Int)=r)) :
  Calls Tryz.prog 157 #[.slice a0 n c0,.int .i64 r,.slice a2 d c2] w fun e w'=>e=.returned (.tuple #[.slice none 0 0,.int .i64 21])∧w'=w:=by
 have kf:∀ W,Calls Tryz.prog 191 #[.int .i64 n,.int .i64 r,.int .i64 d] W fun e w'=>e=.returned (.bool false)∧w'=W:=fun W=>by
  have:=fits_call n d r hm hm2 hr W
  rwa [decide_eq_false h] at this
 clear h
 go_enter Tryz.func157,Tryz.ntmps157
 go_wp2_with (go_at_call 191;refine (kf _).mono ?_;rintro e w' ⟨rfl,h⟩;obtain rfl:=h.symm)
 go_ret2
 exact⟨rfl,rfl⟩
def turnF (xs:List Int)(p:Int)(j:Nat):Int :=
 if j%2=0 then turnA (xs.getD (2*(j/2)) 0) (xs.getD (2*(j/2)+1) 0) (p*((j/2:Nat)+1)) else turnB (xs.getD (2*(j/2)) 0) (xs.getD (2*(j/2)+1) 0) (p*((j/2:Nat)+1))
def turnZ (xs:List Int)(p:Int)(n:Nat):List Int:=(List.range n).map (turnF xs p)
theorem turnF_even (xs:List Int)(p:Int)(k:Nat):turnF xs p (2*k)=turnA (xs.getD (2*k) 0) (xs.getD (2*k+1) 0) (p*(k+1)):=by
 unfold turnF
 rw[if_pos (by omega),show 2*k/2=k by omega]
theorem turnF_odd (xs:List Int)(p:Int)(k:Nat):turnF xs p (2*k+1)=turnB (xs.getD (2*k) 0) (xs.getD (2*k+1) 0) (p*(k+1)):=by
 unfold turnF
 rw[if_neg (by omega),show (2*k+1)/2=k by omega]
theorem wf_turnF (xs:List Int)(p:Int)(j:Nat):(Lit.int .i64 (turnF xs p j)).wf=true:=by
 unfold turnF
 split
 ·exact wCz _
 ·exact wCz _
theorem pair_step {W:World}{B n i:Nat}{cs:List Value}{F:Nat→Int}{A C:Int}(hs:W.ownsRow B 2 1 (.slice (some ⟨B,0,none⟩) n n) n cs)(hi:i+1<n)
  (hcs:∀ j,j<i→cs[j]? = some (.int .i64 (F j))) (hA:Value.int .i64 A=.int .i64 (F i)) (hC:Value.int .i64 C=.int .i64 (F (i+1))) :
  ∃ u u',W.cell? ⟨B,i,none⟩=some u∧W.frozen? ⟨B,i,none⟩=false∧(W.setCell ⟨B,i,none⟩ (.int .i64 A)).cell? ⟨B,i+1,none⟩=some u'∧(W.setCell ⟨B,i,none⟩ (.int .i64 A)).frozen? ⟨B,i+1,none⟩=false ∧
   ∃ cs',((W.setCell ⟨B,i,none⟩ (.int .i64 A)).setCell ⟨B,i+1,none⟩ (.int .i64 C)).ownsRow B 2 1 (.slice (some ⟨B,0,none⟩) n n) n cs'∧∀ j,j<i+2→cs'[j]? = some (.int .i64 (F j)):=by
 have hlen:=oLe hs
 have s1:=(hs.stored i (.int .i64 A)).1
 have hlen1:=oLe s1
 have s2:=(s1.stored (i+1) (.int .i64 C)).1
 have g1:=set_step (F:=fun j=>Value.int .i64 (F j)) hlen (by omega) hA hcs
 have g2:=set_step (F:=fun j=>Value.int .i64 (F j)) hlen1 hi hC g1
 refine⟨cs[i],_,(hs.cellAt i (by omega)).trans (by simp),hs.frozenAt i,(s1.cellAt (i+1) (by omega)).trans (List.getElem?_eq_getElem (by omega)),s1.frozenAt (i+1),_,s2,g2⟩
theorem turn_ok (a0:Option Addr)(h c0:Nat)(xs:List Int)(p:Int)(w:World)(h0:Reads .i64 w a0 (2*h) xs)(hp:0≤p∧p≤1000)(hb:2*h*8≤281474976710656) :
  Calls Tryz.prog 203 #[.slice a0 (2*h) c0,.int .i64 p] w fun e w'=>(∃ a c,e=.returned (.tuple #[.slice a (2*h) c,.int .i64 0])∧Reads .i64 w' a (2*h) (turnZ xs p (2*h))∧(a=none→c=0))∧Below w.heap.size w w':=by
 obtain⟨i0,hi,hz0,hz1,hz2⟩:=info_parts info2
 obtain⟨p0,p1⟩:=hp
 have hm:=h0.max
 obtain⟨n,en⟩:∃ n,2*h=n:=⟨_,rfl⟩
 rw[en] at h0 hb hm ⊢
 have ev:((n:Int)%2==0)=true:=by simp;omega
 have hf:(n:Int)/2=(h:Int):=by omega
 unfold turnZ
 go_enter Tryz.func203,Tryz.ntmps203
 go_wp2_with (first
  | (at_make;refine wpList_make_full _ rfl (.tmp 19) (.tmp 19) 70 rfl w.heap.size 2 i0 (.int .i64 0) 1 Tryz.underlying70 hi hz0 hz1 .i64 .i64 _ _ n rfl rfl rfl rfl (by rw[hz2];omega) (by unfold maxLen;omega) (Nat.le_refl _) ?_;intro w1 hown hgrow))
 have hbel:Below w.heap.size w w1:=(Below.refl _ _).grown hgrow (Nat.le_refl _) (fun k h=>by cases h)
 go_wp2
 go_loopw [24] (fun i wr=>∃ k:Nat,k≤h∧i=.int .i64 k∧Below w.heap.size w wr∧∃ cs,wr.ownsRow w.heap.size 2 1 (.slice (some ⟨w.heap.size,0,none⟩) n n) n cs∧∀ j,j<2*k→cs[j]? = some (.int .i64 (turnF xs p j))) (fun i _=>h-(intOf i).toNat)
 case atStart=>exact⟨0,Nat.zero_le _,rfl,hbel,_,hown,fun j hj=>by omega⟩
 case round =>
  obtain⟨k,hk,rfl,hbr,cs,ho,hcs⟩:=hrel
  by_cases hlt:k<h
  ·have hr:=h0.below hbr
   obtain⟨x,rfl⟩:=h0.some_ (by omega)
   have cx:=hr.cell x rfl (2*k) (by omega)
   have cy:=hr.cell x rfl (2*k+1) (by omega)
   have wx:=h0.wf (2*k)
   have wy:=h0.wf (2*k+1)
   have hlen:=oLe ho
   have eA:=turnF_even xs p k
   have eB:=turnF_odd xs p k
   have m0:0≤p*((k:Int)+1):=Int.mul_nonneg p0 (by omega)
   have m1:p*((k:Int)+1)≤1000*((k:Int)+1):=Int.mul_le_mul_of_nonneg_right p1 (by omega)
   obtain⟨M,eM⟩:∃ M,p*((k:Int)+1)=M:=⟨_,rfl⟩
   rw[eM] at m0 m1 eA eB
   obtain⟨X,eX⟩:∃ X,xs.getD (2*k) 0=X:=⟨_,rfl⟩
   obtain⟨Y,eY⟩:∃ Y,xs.getD (2*k+1) 0=Y:=⟨_,rfl⟩
   rw[eX] at cx wx
   rw[eY] at cy wy
   rw[eX,eY] at eA eB
   have kt:=fun W=>turned_call X Y M wx wy W
   rw[←eA,←eB] at kt
   obtain⟨A,eA'⟩:∃ A,turnF xs p (2*k)=A:=⟨_,rfl⟩
   obtain⟨B,eB'⟩:∃ B,turnF xs p (2*k+1)=B:=⟨_,rfl⟩
   rw[eA',eB'] at kt
   have step:=fun (W:World) (hs:W.ownsRow w.heap.size 2 1 (.slice (some ⟨w.heap.size,0,none⟩) n n) n cs) =>
    pair_step hs (i:=2*k) (by omega) (fun j hj=>hcs j hj) (A:=A) (C:=B) (by rw[eA']) (by rw[eB'])
   obtain⟨i,ei⟩:∃ i,2*k=i:=⟨_,rfl⟩
   have ik:2*(k:Int)=(i:Int):=by omega
   have hin:i+1<n:=by omega
   rw[ei] at cx cy
   rw[ei] at step
   obtain⟨i',ei'⟩:∃ i',i+1=i':=⟨_,rfl⟩
   rw[ei'] at cy step hin
   have ik':(i:Int)+1=(i':Int):=by omega
   have Ei':Hid (i+2=2*(k+1)):=show i+2=2*(k+1) by omega
   have Ei:Hid (2*k=i):=ei
   have v0:IntKind.i64.wrap (i:Int)=i:=by rw[IntKind.wrap_i64];omega
   have v1:IntKind.i64.wrap (i':Int)=i':=by rw[IntKind.wrap_i64];omega
   have v2:IntKind.i64.wrap ((k:Int)+1)=(k:Int)+1:=by rw[IntKind.wrap_i64];omega
   have v3:IntKind.i64.wrap M=M:=by rw[IntKind.wrap_i64];omega
   have key:∀ W2,Below wr.drew.heap.size wr.drew W2→∃ u u',W2.cell? ⟨w.heap.size,i,none⟩=some u∧W2.frozen? ⟨w.heap.size,i,none⟩=false∧(W2.setCell ⟨w.heap.size,i,none⟩ (.int .i64 A)).cell? ⟨w.heap.size,i',none⟩=some u'∧(W2.setCell ⟨w.heap.size,i,none⟩ (.int .i64 A)).frozen? ⟨w.heap.size,i',none⟩=false ∧
     Hid (Below w.heap.size w ((W2.setCell ⟨w.heap.size,i,none⟩ (.int .i64 A)).setCell ⟨w.heap.size,i',none⟩ (.int .i64 B))∧∃ cs',((W2.setCell ⟨w.heap.size,i,none⟩ (.int .i64 A)).setCell ⟨w.heap.size,i',none⟩ (.int .i64 B)).ownsRow w.heap.size 2 1 (.slice (some ⟨w.heap.size,0,none⟩) n n) n cs'∧∀ j,j<i+2→cs'[j]? = some (.int .i64 (turnF xs p j))):=by
    intro W2 hb2'
    have hb2:Below wr.heap.size wr W2:=⟨hb2'.os,hb2'.tape,hb2'.output,hb2'.size,hb2'.block⟩
    obtain⟨u,u',c2,f2,c3,f3,R'⟩:=step W2 (oBe ho hb2)
    exact⟨u,u',c2,f2,c3,f3,((bTn hbr hb2).setCell (Nat.le_refl _) _).setCell (Nat.le_refl _) _,R'⟩
   clear step ho hbr
   clear ei ei' eA eB eA' eB' eX eY hcs hr hown hgrow hbel hi hz0 hz1 hz2 h0 hf ev en
   go_wp2
   go_region_with (first
    | (go_at_call 224;refine (kt _).mono ?_;rintro e W2 ⟨rfl,hb2⟩;obtain⟨u,u',c2,f2,c3,f3,R⟩:=key W2 hb2;clear hb2))
   all_goals
    go_wp2
    go_roundw
    case rel=>exact⟨k+1,by omega,by go_num,R.out.1,by rw[←Ei'.out];exact R.out.2⟩
    case measure=>simp[intOf];omega
  ·have e:k=h:=by omega
   subst e
   have fin:=oRa (zs:=(List.range n).map (turnF xs p)) ho (by simp) (fun z hz=>by obtain⟨y,_,rfl⟩:=List.mem_map.1 hz;exact wf_turnF _ _ _) (fun j hj=>by rw[hcs j (by omega)];simp[hj])
   clear hcs ho
   go_wp2
   go_ret2
   exact⟨⟨_,_,rfl,fin,fun h=>by cases h⟩,hbr⟩
def headsL (xs:List Int)(p:Int)(d:Nat):Nat→List Int
 | 0=>[]
 | m+1=>headsL xs p d m++turnZ ((xs.drop (m*d)).take d) p d
theorem turnZ_length (xs:List Int)(p:Int)(n:Nat):(turnZ xs p n).length=n:=by simp[turnZ]
theorem headsL_length (xs:List Int)(p:Int)(d m:Nat):(headsL xs p d m).length=m*d:=by
 induction m with
 | zero=>simp[headsL]
 | succ m ih=>rw[headsL,List.length_append,ih,turnZ_length,Nat.succ_mul]
theorem wf_turnZ (xs:List Int)(p:Int)(n:Nat):∀ z∈turnZ xs p n,(Lit.int .i64 z).wf=true:=fun z hz=>by
 obtain⟨y,_,rfl⟩:=List.mem_map.1 hz
 exact wf_turnF _ _ _
theorem wf_headsL (xs:List Int)(p:Int)(d m:Nat):∀ z∈headsL xs p d m,(Lit.int .i64 z).wf=true:=by
 induction m with
 | zero=>intro z hz;simp[headsL] at hz
 | succ m ih =>
  intro z hz
  rw[headsL,List.mem_append] at hz
  rcases hz with h|h
  ·exact ih z h
  ·exact wf_turnZ _ _ _ z h
theorem splits_call (n H:Nat)(hH:0<H)(hm:n≤9223372036854775807)(w:World) :
  Calls Tryz.prog 202 #[.int .i64 n,.int .i64 H] w fun e w'=>e=.returned (.bool (decide (n%H=0∧n/H%2=0)))∧w'=w:=by
 have z:((H:Int)==0)=false:=by simp;omega
 obtain⟨r,er⟩:∃ r,n%H=r:=⟨_,rfl⟩
 obtain⟨d,ed⟩:∃ d,n/H=d:=⟨_,rfl⟩
 have er':(n:Int)%(H:Int)=(r:Int):=by rw[←er];simp
 have ed':(n:Int)/(H:Int)=(d:Int):=by rw[←ed];simp
 have hd:d≤n:=by rw[←ed];exact Nat.div_le_self _ _
 rw[er,ed]
 clear er ed
 go_enter Tryz.func202,Tryz.ntmps202
 go_wp2
 ·have h:r=0:=by assumption
  go_ret
  refine⟨?_,rfl⟩
  by_cases e:d%2=0
  ·have e':((d:Int)%2==0)=true:=by simp;omega
   simp[h,e,e']
  ·have e':((d:Int)%2==0)=false:=by simp;omega
   simp[e,e']
 ·have h:¬r=0:=by assumption
  go_ret
  exact⟨by simp[h],rfl⟩
theorem turn_fine (a0:Option Addr)(n c0:Nat)(xs:List Int)(p:Int)(w:World)(h0:Reads .i64 w a0 n xs)(hn:n%2=0)(hp:0≤p∧p≤1000)(hb:n*8≤281474976710656) :
  Calls Tryz.prog 203 #[.slice a0 n c0,.int .i64 p] w fun e w'=>(∃ a c,e=.returned (.tuple #[.slice a n c,.int .i64 0])∧Reads .i64 w' a n (turnZ xs p n)∧(a=none→c=0))∧Below w.heap.size w w':=by
 obtain⟨k,rfl⟩:∃ k,n=2*k:=⟨n/2,by omega⟩
 exact turn_ok _ _ _ _ _ _ h0 hp hb
theorem part_reads {w:World}{x:Addr}{n:Nat}{xs:List Int}(h:Reads .i64 w (some x) n xs){H d m:Nat}(e:H*d=n)(hm:m<H):m*d+d≤n∧Reads .i64 w (some (x.add (m*d))) d ((xs.drop (m*d)).take d):=by
 have h1:(m+1)*d≤H*d:=Nat.mul_le_mul_right d hm
 rw[Nat.succ_mul,e] at h1
 exact⟨h1,h.cut _ _ h1⟩
theorem heads_ok (x:Addr)(n c0 H:Nat)(xs:List Int)(p:Int)(w:World)(h0:Reads .i64 w (some x) n xs)(l0:n≤c0)(hH:0<H)(hn:0<n)(h:n%H=0∧n/H%2=0)(hp:0≤p∧p≤1000)(hb:n*8≤140737488355328) :
  Calls Tryz.prog 176 #[.slice (some x) n c0,.int .i64 H,.int .i64 p] w fun e w'=>(∃ a c,e=.returned (.tuple #[.slice a n c,.int .i64 0])∧Reads .i64 w' a n (headsL xs p (n/H) H)∧n≤c)∧Below w.heap.size w w':=by
 obtain⟨i0,hi,hz0,hz1,hz2⟩:=info_parts info2
 have hm:=h0.max
 have ks:=splits_call n H hH hm w
 rw[decide_eq_true h] at ks
 obtain⟨d,ed⟩:∃ d,n/H=d:=⟨_,rfl⟩
 have ed':(n:Int)/(H:Int)=(d:Int):=by rw[←ed];simp
 have eH:H*d=n:=by rw[←ed,Nat.mul_comm];exact Nat.div_mul_cancel (Nat.dvd_of_mod_eq_zero h.1)
 rw[ed] at h ⊢
 have d2:=h.2
 have d0:0<d:=by
  rcases Nat.eq_zero_or_pos d with r|r
  ·subst r;simp at eH;omega
  ·exact r
 have hdn9q:d≤n:=by rw[←ed];exact Nat.div_le_self _ _
 clear h ed
 have z:((H:Int)==0)=false:=by simp;omega
 have zn:((n:Int)==0)=false:=by simp;omega
 have kt:=fun (W:World) a c ys (h:Reads .i64 W a d ys) (hd:d*8≤281474976710656)=>turn_fine a d c ys p W h d2 hp hd
 go_enter Tryz.func176,Tryz.ntmps176
 go_wp2_with (first
  | (go_at_call 202;refine ks.mono ?_;rintro e w' ⟨rfl,h⟩;obtain rfl:=h.symm)
  | (at_make;refine wpList_make_own _ rfl _ (.tmp 28) 70 rfl w.heap.size 2 i0 (.int .i64 0) 1 Tryz.underlying70 hi hz0 hz1 .i64 .i64 _ n rfl rfl rfl (by rw[hz2];omega) (by unfold maxLen;omega) (Nat.le_refl _) ?_;intro w1 hown hgrow))
 have hbel:Below w.heap.size w w1:=(Below.refl _ _).grown hgrow (Nat.le_refl _) (fun k h=>by cases h)
 go_wp2
 go_loopw [8,10] (fun v i wr=>∃ k:Nat,k≤H∧i=.int .i64 ((k*d:Nat):Int)∧Below w.heap.size w wr∧wr.ownsRow w.heap.size 2 1 v (k*d) ((headsL xs p d k).map (Value.int .i64))) (fun _ i _=>n-(intOf i).toNat)
 case atStart=>exact⟨0,Nat.zero_le _,by simp,hbel,by simpa [headsL] using hown⟩
 case round =>
  clear hown hgrow hbel
  obtain⟨k,hk,rfl,hbr,ho⟩:=hrel
  by_cases hlt:k<H
  ·obtain⟨hq,hr⟩:=part_reads (h0.below hbr) eH hlt
   have es:headsL xs p d (k+1)=headsL xs p d k++turnZ ((xs.drop (k*d)).take d) p d:=rfl
   have ek:(k+1)*d=k*d+d:=Nat.succ_mul k d
   obtain⟨ys,ey⟩:∃ ys,(xs.drop (k*d)).take d=ys:=⟨_,rfl⟩
   obtain⟨P,eP⟩:∃ P,k*d=P:=⟨_,rfl⟩
   rw[ey] at hr es
   rw[eP] at hr hq ek ho ⊢
   have Es:Hid (headsL xs p d (k+1)=headsL xs p d k++turnZ ys p d):=es
   have Ek:Hid ((k+1)*d=P+d):=ek
   obtain⟨Q,eQ⟩:∃ Q,P+d=Q:=⟨_,rfl⟩
   have eQ':(P:Int)+(d:Int)=(Q:Int):=by omega
   have eQ2:Q-P=d:=by omega
   have hQ:Q≤n:=by omega
   have hP:P<Q:=by omega
   clear ey eP es ek h0 ks eH hk eQ
   go_wp2_with (first
    | (go_at_call 203;refine (kt _ _ _ _ hr (by omega)).mono ?_;rintro e W2 ⟨⟨p2,q2,rfl,r2,n2⟩,hb2⟩;replace ho:=oBe ho hb2;replace hbr:=bTn hbr hb2;clear hb2 hr;have hsz:=hbr.size)
    | (at_builtin;refine wpList_copy rfl (.tmp 55) (.tmp 56) 70 rfl w.heap.size 2 i0 (.int .i64 0) 8 Tryz.underlying70 hi hz0 hz1 hz2 rfl _ P _ rfl ho .i64 p2 d q2 _ rfl r2 n2 (by unfold maxLen;omega) (by omega) hsz ?_;intro v1 W3 ho3 hg3;have R:=And.intro (below_append hbr ho hg3) ho3;clear ho3 hg3 ho))
   go_roundw
   case rel=>exact⟨k+1,by omega,by rw[Ek.out];congr 1;omega,R.1,by rw[Ek.out,Es.out,List.map_append];exact R.2⟩
   case measure=>simp[intOf];omega
  ·have e:k=H:=by omega
   subst e
   rw[eH] at ho ⊢
   have fin:=oRe (zs:=headsL xs p d k) ho (by rw[headsL_length,eH]) (wf_headsL _ _ _ _) (fun j hj=>copy_at _ _ _ (by rw[headsL_length,eH];exact hj))
   obtain⟨a,c,rfl,hr⟩:=fin
   have hn:=own_cap ho
   clear ho kt
   go_wp2
   go_ret2
   exact⟨⟨_,_,rfl,hr,hn⟩,hbr⟩
def plusZ (a b:List Int)(j:Nat):Int:=cZ (cZ (a.getD j 0)+cZ (b.getD j 0))
theorem add4_same (a0:Option Addr)(n c0:Nat)(xs:List Int)(a1:Option Addr)(c1:Nat)(ys:List Int)(w:World)(h0:Reads .i64 w a0 n xs)(h1:Reads .i64 w a1 n ys)(hb:n*8≤281474976710656) :
  Calls Tryz.prog 174 #[.slice a0 n c0,.slice a1 n c1] w fun e w'=>(∃ a c,e=.returned (.tuple #[.slice a n c,.int .i64 0])∧Reads .i64 w' a n ((List.range n).map (plusZ xs ys))∧n≤c∧∀ x,a=some x→w.heap.size≤x.block)∧Below w.heap.size w w':=by
 obtain⟨i0,hi,hz0,hz1,hz2⟩:=info_parts info2
 have hm:=h0.max
 go_enter Tryz.func174,Tryz.ntmps174
 go_wp2_with (first|(at_make;refine wpList_make_full _ rfl (.tmp 14) (.tmp 14) 70 rfl w.heap.size 2 i0 (.int .i64 0) 1 Tryz.underlying70 hi hz0 hz1 .i64 .i64 _ _ n rfl rfl rfl rfl (by rw[hz2];omega) (by unfold maxLen;omega) (Nat.le_refl _) ?_;intro w1 hown hgrow))
 have hbel:Below w.heap.size w w1:=(Below.refl _ _).grown hgrow (Nat.le_refl _) (fun k h=>by cases h)
 go_wp2
 go_loopw [18] (fun i wr=>∃ k:Nat,k≤n∧i=.int .i64 k∧Below w.heap.size w wr∧∃ cs,wr.ownsRow w.heap.size 2 1 (.slice (some ⟨w.heap.size,0,none⟩) n n) n cs∧∀ j,j<k→cs[j]? = some (.int .i64 (plusZ xs ys j))) (fun i _=>n-(intOf i).toNat)
 case atStart=>exact⟨0,Nat.zero_le _,rfl,hbel,_,hown,fun j hj=>by omega⟩
 case round =>
  obtain⟨k,hk,rfl,hbr,cs,ho,hcs⟩:=hrel
  by_cases hlt:k<n
  ·have hr:=h0.below hbr
   have hq:=h1.below hbr
   obtain⟨x,rfl⟩:=h0.some_ (by omega)
   obtain⟨y,rfl⟩:=h1.some_ (by omega)
   have cx:=hr.cell x rfl k hlt
   have cy:=hq.cell y rfl k hlt
   have hlen:=oLe ho
   have cell:wr.cell? ⟨w.heap.size,k,none⟩=cs[k]?:=ho.cellAt k (by omega)
   obtain⟨u,hu⟩:∃ u,cs[k]? = some u:=⟨cs[k],by simp[hlen,hlt]⟩
   rw[hu] at cell
   have froz:=ho.frozenAt k
   have st:=fun v=>ho.stored k v
   have step:=fun v (h:v=Value.int .i64 (plusZ xs ys k))=>set_step (F:=fun j=>Value.int .i64 (plusZ xs ys j)) hlen hlt h hcs
   obtain⟨X,eX⟩:∃ X,xs.getD k 0=X:=⟨_,rfl⟩
   obtain⟨Y,eY⟩:∃ Y,ys.getD k 0=Y:=⟨_,rfl⟩
   have eP:plusZ xs ys k=cZ (cZ X+cZ Y):=by unfold plusZ;rw[eX,eY]
   rw[eX] at cx
   rw[eY] at cy
   rw[eP] at step
   have R:Hid (Below w.heap.size w (wr.setCell ⟨w.heap.size,k,none⟩ (.int .i64 (cZ (cZ X+cZ Y))))∧∃ cs',(wr.setCell ⟨w.heap.size,k,none⟩ (.int .i64 (cZ (cZ X+cZ Y)))).ownsRow w.heap.size 2 1 (.slice (some ⟨w.heap.size,0,none⟩) n n) n cs'∧∀ j,j<k+1→cs'[j]? = some (.int .i64 (plusZ xs ys j))) :=
    ⟨hbr.setCell (Nat.le_refl _) _,_,(st _).1,step _ rfl⟩
   have bx:=cZb X
   have by_:=cZb Y
   clear eX eY eP step st hcs ho hu hlen hr hbr hq hown hgrow hbel h0 h1 hi hz0 hz1 hz2
   go_wp2
   go_region_with (go_at_call 79;refine (cCa _ _).mono ?_;rintro e w' ⟨rfl,rfl⟩)
   all_goals
    go_wp2
    go_roundw
    case rel=>exact⟨k+1,by omega,by go_num,R.out.1.drew,R.out.2⟩
    case measure=>simp[intOf];omega
  ·have e:k=n:=by omega
   subst e
   have fin:=oRa (zs:=(List.range k).map (plusZ xs ys)) ho (by simp) (fun z hz=>by obtain⟨y,_,rfl⟩:=List.mem_map.1 hz;exact wCz _) (fun j hj=>by rw[hcs j hj];simp[hj])
   clear hcs ho
   go_wp2
   go_ret2
   exact⟨⟨_,_,rfl,fin,Nat.le_refl _,fun x hx=>Nat.le_of_eq (congrArg Addr.block (Option.some.inj hx))⟩,hbr⟩
theorem mat_yes (a0:Option Addr)(n c0:Nat)(ws:List Int)(r:Int)(a2:Option Addr)(d c2:Nat)(xs:List Int)(w:World)
  (h0:Reads .i8 w a0 n ws) (hc:n≤c0) (h2:Reads .i64 w a2 d xs) (hf:fitB n r d=true) (hb:n*8≤140737488355328) :
  Calls Tryz.prog 157 #[.slice a0 n c0,.int .i64 r,.slice a2 d c2] w fun e w'=>(∃ cs,e=.returned (.tuple #[.slice (some ⟨w.heap.size,0,none⟩) (n/d) (n/d),.int .i64 0])∧Reads .i64 w' (some ⟨w.heap.size,0,none⟩) (n/d) (matL ws xs) ∧
   w'.ownsRow w.heap.size 2 1 (.slice (some ⟨w.heap.size,0,none⟩) (n/d) (n/d)) (n/d) cs∧∀ j,j<n/d→cs[j]? = some (.int .i64 (rowZ ws d xs j)))∧Below w.heap.size w w':=by
 obtain⟨hd,hn,hr⟩:=fitB_yes hf
 have hle:=Nat.div_le_self n d
 rw[hr]
 refine (mat_fits a0 n c0 ws (n/d) a2 d c2 xs w h0 hc h2 hd hn (by omega)).mono ?_
 rintro e w' ⟨⟨a,c,cs,he,hR,rfl,rfl,ho,hcs⟩,hB⟩
 refine⟨⟨cs,he,?_,ho,hcs⟩,hB⟩
 unfold matL
 rw[h0.len,h2.len]
 exact hR
theorem blend_call (a0:Option Addr)(K c0:Nat)(zs:List Int)(a1:Option Addr)(c1:Nat)(A:Nat→Option Addr)(C:Nat→Nat)(R:Nat→List Int)(i:Nat)(w:World)
  (h0:Reads .i64 w a0 K zs) (h1:Grid w a1 K A C R) (hi:∀ j,j<K→i<(R j).length) (zb:∀ j,-2147483648≤zs.getD j 0∧zs.getD j 0≤2147483647) (rb:∀ j,j<K→-2147483648≤(R j).getD i 0∧(R j).getD i 0≤2147483647) :
  Calls Tryz.prog 229 #[.slice a0 K c0,.slice a1 K c1,.int .i64 i] w fun e w'=>e=.returned (.int .i64 (blendZ (fun j=>zs.getD j 0) R K i))∧w'=w:=by
 have hm:=h0.max
 go_enter Tryz.func229,Tryz.ntmps229
 go_wp2
 go_loopw [7,12] (fun s j wr=>∃ k:Nat,k≤K∧j=.int .i64 k∧s=.int .i64 (blendTo (fun j=>zs.getD j 0) R i k)∧wr=w) (fun _ j _=>K-(intOf j).toNat)
 case atStart=>exact⟨0,Nat.zero_le _,rfl,rfl,rfl⟩
 case round =>
  obtain⟨k,hk,rfl,rfl,hw⟩:=hrel
  subst hw
  by_cases hlt:k<K
  ·obtain⟨x,rfl⟩:=h0.some_ (by omega)
   obtain⟨y,rfl⟩:=h1.some_ (by omega)
   have cx:=h0.cell x rfl k hlt
   have cy:=h1.cell y rfl k hlt
   have hik:=hi k hlt
   have rk:=h1.row k hlt
   obtain⟨z,ez⟩:=rk.some_ (by omega)
   have cz:=rk.cell z ez i hik
   rw[ez] at cy
   have b1:=zb k
   have b2:=rb k hlt
   have es:blendTo (fun j=>zs.getD j 0) R i (k+1)=addZ (blendTo (fun j=>zs.getD j 0) R i k) (zs.getD k 0*(R k).getD i 0):=rfl
   have wS:=wf_blendTo (fun j=>zs.getD j 0) R i k
   have pb:=prodM_bounds _ _ b1 b2
   obtain⟨Z,eZ⟩:∃ Z,zs.getD k 0=Z:=⟨_,rfl⟩
   obtain⟨Y,eY⟩:∃ Y,(R k).getD i 0=Y:=⟨_,rfl⟩
   obtain⟨T,eT⟩:∃ T,blendTo (fun j=>zs.getD j 0) R i k=T:=⟨_,rfl⟩
   obtain⟨n,en⟩:∃ n,(R k).length=n:=⟨_,rfl⟩
   rw[eZ,eY] at pb
   rw[eZ] at cx es
   rw[eY] at cz es
   rw[eT] at es wS ⊢
   rw[en] at cy hik
   obtain⟨Pz,eP⟩:∃ Pz,Z*Y=Pz:=⟨_,rfl⟩
   rw[eP] at pb es
   obtain⟨p0,p1⟩:=pb
   have wP:(Lit.int .i64 Pz).wf=true:=WalkArith.wf_i64 ⟨by omega,by omega⟩
   have Es:Hid (blendTo (fun j=>zs.getD j 0) R i (k+1)=addZ T Pz):=es
   clear es eZ eY eT en b1 b2 rk ez
   have ka:=fun W=>add_call T Pz wS wP W
   go_wp2_with (go_at_call 111;refine (ka _).mono ?_;rintro e w' ⟨rfl,hq⟩;obtain rfl:=hq.symm)
   go_roundw
   case rel=>exact⟨k+1,by omega,by go_num,by rw[Es.out],trivial⟩
   case measure=>simp[intOf];omega
  ·have e:k=K:=by omega
   subst e
   have wS:=wf_blendTo (fun j=>zs.getD j 0) R i k
   obtain⟨T,eT⟩:∃ T,blendTo (fun j=>zs.getD j 0) R i k=T:=⟨_,rfl⟩
   have Et:Hid (blendTo (fun j=>zs.getD j 0) R i k=T):=eT
   rw[eT] at wS ⊢
   clear eT
   have ks:=fun W=>shift_call T 16 wS (by decide) W
   go_wp2_with (first
    | (go_at_call 201;refine (ks _).mono ?_;rintro e w' ⟨rfl,hq⟩;obtain rfl:=hq.symm)
    | (go_at_call 79;refine (cCa _ _).mono ?_;rintro e w' ⟨rfl,hq⟩;obtain rfl:=hq.symm))
   go_ret
   exact⟨by unfold blendZ;rw[Et.out];rfl,rfl⟩
end Go.Proofs.YtbkjhfmehemgpaaGreat

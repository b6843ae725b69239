/- Texts put together. -/
import Derived.Test.YthliomlmhfjhnaaGreatZs8
import Derived.Test.YthliomlmhfjhnaaGreatZs11
import Derived.Test.YthliomlmhfjhnaaGreatZs7
namespace Go.Proofs.YthliomlmhfjhnaaGreat
set_option maxRecDepth 20000
set_option maxHeartbeats 16000000
open Go.ChangeShapes Go.WideShapes Go.ChangeAt Go.RowKit
set_option linter.unusedVariables false
set_option linter.unusedSimpArgs false
def fitB (n:Nat)(r:Int)(d:Nat):Bool:=decide (0<d∧n%d=0∧((n/d:Nat):Int)=r)
def matL (ws xs:List Int):List Int:=(List.range (ws.length/xs.length)).map (rowZ ws xs.length xs)
def hidL (up xs:List Int):List Int:=(matL up xs).map siluZ
def oneB (up down:List Int)(h:Int)(xs:List Int):Bool:=fitB up.length h xs.length && fitB down.length (xs.length:Int) (hidL up xs).length
def oneL (up down xs:List Int):List Int:=matL down (hidL up xs)
theorem matL_length (ws xs:List Int):(matL ws xs).length=ws.length/xs.length:=by simp[matL]
theorem hidL_length (up xs:List Int):(hidL up xs).length=up.length/xs.length:=by simp[hidL,matL]
theorem fitB_yes {n d:Nat}{r:Int}(h:fitB n r d=true):0<d∧n=n/d*d∧r=((n/d:Nat):Int):=by
 obtain⟨h1,h2,h3⟩:=of_decide_eq_true h
 have:=Nat.div_add_mod n d
 rw[h2,Nat.mul_comm] at this
 exact⟨h1,by omega,h3.symm⟩
theorem oneL_length {up down xs:List Int}{h:Int}(hb:oneB up down h xs=true):(oneL up down xs).length=xs.length:=by
 unfold oneB at hb
 rw[Bool.and_eq_true] at hb
 have:=(fitB_yes hb.2).2.2
 unfold oneL
 rw[matL_length]
 omega
theorem matL_at (ws xs:List Int)(j:Nat)(h:j<ws.length/xs.length):(matL ws xs).getD j 0=rowZ ws xs.length xs j:=by
 simp[matL,List.getD,h]
theorem hidL_at (up xs:List Int)(j:Nat)(h:j<up.length/xs.length):(hidL up xs).getD j 0=siluZ (rowZ up xs.length xs j):=by
 simp[hidL,matL,List.getD,h]
theorem matL_bounds (ws xs:List Int)(j:Nat):-2147483648≤(matL ws xs).getD j 0∧(matL ws xs).getD j 0≤2147483647:=by
 by_cases h:j<ws.length/xs.length
 ·rw[matL_at _ _ _ h]
  exact cZb _
 ·have e:(matL ws xs).getD j 0=0:=by simp[matL,List.getD,h]
  rw[e]
  omega
def plc (router xs:List Int)(j:Nat):Nat:=(places (matL router xs)).getD j 0
def chosenL (router:List Int)(K:Nat)(xs:List Int):List Int:=(List.range K).map fun j=>(matL router xs).getD (plc router xs j) 0
def routeP (router:List Int)(k:Int)(xs:List Int):List Int:=pickZ (matL router xs) k
def routeS (router:List Int)(k:Int)(xs:List Int):List Int:=softZ (chosenL router k.toNat xs) k.toNat
def routeE (router:List Int)(E k:Int)(xs:List Int):Int:=if k<1∨E<k then 20 else if fitB router.length E xs.length then 0 else 21
def routeB (router:List Int)(E k:Int)(xs:List Int):Bool:=decide (1≤k) && decide (k≤E) && fitB router.length E xs.length
theorem routeE_no {router xs:List Int}{E k:Int}(h:routeB router E k xs=false):routeE router E k xs=20∨routeE router E k xs=21:=by
 unfold routeE
 by_cases h1:k<1∨E<k
 ·rw[if_pos h1];exact .inl rfl
 ·rw[if_neg h1]
  cases hf:fitB router.length E xs.length with
  | true =>
   exfalso
   unfold routeB at h
   rw[hf,decide_eq_true (by omega:1≤k),decide_eq_true (by omega:k≤E)] at h
   cases h
  | false=>exact .inr rfl
theorem routeE_ne {router xs:List Int}{E k:Int}(h:routeB router E k xs=false):¬routeE router E k xs=0:=by
 rcases routeE_no h with e|e<;>rw[e]<;>decide
theorem plc_lt {router xs:List Int}{E k:Int}(h:routeB router E k xs=true){j:Nat}(hj:j<k.toNat):((plc router xs j:Nat):Int)<E:=by
 unfold routeB at h
 simp only[Bool.and_eq_true,decide_eq_true_eq] at h
 have hE:=(fitB_yes h.2).2.2
 have hl:=matL_length router xs
 have:=(places_ordered (matL router xs)).lt (m:=j) (by omega)
 unfold plc
 omega
theorem routeP_at {router xs:List Int}{E k:Int}(h:routeB router E k xs=true){j:Nat}(hj:j<k.toNat):(routeP router k xs).getD j 0=(plc router xs j:Nat):=by
 unfold routeB at h
 simp only[Bool.and_eq_true,decide_eq_true_eq] at h
 have hE:=(fitB_yes h.2).2.2
 have hl:=matL_length router xs
 exact topZ_at _ _ _ (by omega)
theorem shareF_bounds (z:List Int)(t S:Int)(j:Nat):-2147483648≤shareF z t S j∧shareF z t S j≤2147483647:=by
 unfold shareF divZ
 split
 ·unfold noughtZ
  repeat' split
  all_goals omega
 ·exact cZb _
theorem routeS_bounds (router:List Int)(k:Int)(xs:List Int)(j:Nat):-2147483648≤(routeS router k xs).getD j 0∧(routeS router k xs).getD j 0≤2147483647:=by
 unfold routeS softZ
 by_cases h:j<k.toNat
 ·have e:∀ f:Nat→Int,((List.range k.toNat).map f).getD j 0=f j:=fun f=>by simp[List.getD,h]
  rw[e]
  exact shareF_bounds _ _ _ _
 ·have e:∀ f:Nat→Int,((List.range k.toNat).map f).getD j 0=0:=fun f=>by simp[List.getD,h]
  rw[e]
  omega
def blendTo (sh:Nat→Int)(ro:Nat→List Int)(i:Nat):Nat→Int
 | 0=>0
 | k+1=>addZ (blendTo sh ro i k) (sh k*(ro k).getD i 0)
def blendZ (sh:Nat→Int)(ro:Nat→List Int)(K:Nat)(i:Nat):Int:=cZ (shiftZ (blendTo sh ro i K) 16)
theorem wf_blendTo (sh:Nat→Int)(ro:Nat→List Int)(i k:Nat):(Lit.int .i64 (blendTo sh ro i k)).wf=true:=by
 cases k with
 | zero=>show (Lit.int .i64 0).wf=true;decide
 | succ k=>exact wf_addZ _ _
def rowsL (router:List Int)(U D:Nat→List Int)(xs:List Int)(j:Nat):List Int:=oneL (U (plc router xs j)) (D (plc router xs j)) xs
def restB (router:List Int)(U D:Nat→List Int)(h:Int)(K:Nat)(xs:List Int):Bool:=(List.range K).all fun j=>oneB (U (plc router xs j)) (D (plc router xs j)) h xs
def sh (router:List Int)(k:Int)(xs:List Int)(j:Nat):Int:=(routeS router k xs).getD j 0
def sumL (router:List Int)(U D:Nat→List Int)(k:Int)(xs:List Int):List Int:=(List.range xs.length).map (blendZ (sh router k xs) (rowsL router U D xs) k.toNat)
def mixE (router:List Int)(n m:Nat)(U D:Nat→List Int)(h k:Int)(xs:List Int):Int :=
 if n=0∨n≠m then 21 else if n=1 then (if oneB (U 0) (D 0) h xs then 0 else 21)
 else if routeB router n k xs=false then routeE router n k xs else if restB router U D h k.toNat xs then 0 else 21
def mixL (router:List Int)(n:Nat)(U D:Nat→List Int)(k:Int)(xs:List Int):List Int:=if n=1 then oneL (U 0) (D 0) xs else sumL router U D k xs
theorem restB_yes {router:List Int}{U D:Nat→List Int}{h:Int}{K:Nat}{xs:List Int}(hb:restB router U D h K xs=true){j:Nat}(hj:j<K):oneB (U (plc router xs j)) (D (plc router xs j)) h xs=true :=
 List.all_eq_true.1 hb j (List.mem_range.2 hj)
theorem sumL_length (router:List Int)(U D:Nat→List Int)(k:Int)(xs:List Int):(sumL router U D k xs).length=xs.length:=by simp[sumL]
theorem sumL_at (router:List Int)(U D:Nat→List Int)(k:Int)(xs:List Int)(i:Nat)(h:i<xs.length):(sumL router U D k xs).getD i 0=blendZ (sh router k xs) (rowsL router U D xs) k.toNat i:=by simp[sumL,List.getD,h]
theorem wf_sumL (router:List Int)(U D:Nat→List Int)(k:Int)(xs:List Int):∀ z∈sumL router U D k xs,(Lit.int .i64 z).wf=true:=by
 intro z hz
 obtain⟨y,_,rfl⟩:=List.mem_map.1 hz
 exact wCz _
theorem refMat_fits (a0:Option Addr)(n c0:Nat)(ws:List Int)(R:Nat)(a2:Option Addr)(d c2:Nat)(xs:List Int)(w:World)
  (h0:Reads .i8 w a0 n ws) (hc:n≤c0) (h2:Reads .i64 w a2 d xs) (hd:0<d) (hn:n=R*d) (hb:R*8≤140737488355328) :
  Calls Tryz.prog 51 #[.slice a0 n c0,.int .i64 R,.slice a2 d c2] w fun e w'=>(∃ a c,e=.returned (.tuple #[.slice a R c,.int .i64 0])∧Reads .i64 w' a R ((List.range R).map (rowZ ws d xs))∧(∀ x,a=some x→w.heap.size≤x.block)∧R≤c)∧Below w.heap.size w w':=by
 obtain⟨i0,hi,hz0,hz1,hz2⟩:=info_parts info2
 have hm:=h0.max
 have hm2:=h2.max
 have e1:(n:Int)%(d:Int)=0:=by rw[←Int.natCast_emod,hn];simp
 have e2:(n:Int)/(d:Int)=R:=by rw[←Int.natCast_ediv,hn,Nat.mul_div_cancel R hd]
 have e3:((d:Int)==0)=false:=by simp;omega
 have Hn:Hid (n=R*d):=hn
 clear hn
 go_enter Tryz.func51,Tryz.ntmps51
 go_wp2
 clear e1 e2 e3
 go_loopw [8,9] (fun v i wr=>∃ k:Nat,k≤R∧i=.int .i64 k∧Below w.heap.size w wr∧wr.ownsRow w.heap.size 2 1 v k (gath (rowZ ws d xs) .i64 k)) (fun _ i _=>R-(intOf i).toNat)
 case atStart=>exact⟨0,Nat.zero_le _,rfl,Below.refl _ _,World.ownsRow_nil _ _ _ _⟩
 case round =>
  obtain⟨k,hk,rfl,hbr,ho⟩:=hrel
  by_cases hlt:k<R
  ·obtain⟨p,ep⟩:∃ p,k*d=p:=⟨_,rfl⟩
   have eq:(k+1)*d=p+d:=by rw[Nat.add_mul,ep];omega
   have hq:p+d≤n:=by rw[Hn.out,←eq];exact Nat.mul_le_mul_right d (by omega)
   have ip:(k:Int)*(d:Int)=(p:Int):=by rw[←ep];simp
   have iq:((k:Int)+1)*(d:Int)=((p+d:Nat):Int):=by rw[←eq];simp
   obtain⟨q,eq'⟩:∃ q,p+d=q:=⟨_,rfl⟩
   rw[eq'] at iq
   have hr0:=h0.below hbr
   have hr2:=h2.below hbr
   obtain⟨x,rfl⟩:=h0.some_ (by omega)
   have hcut:=hr0.cut p d hq
   have eV:rowZ ws d xs k=dotZ ((ws.drop p).take d) xs 6:=by unfold rowZ;rw[ep]
   obtain⟨V,eV'⟩:∃ V,dotZ ((ws.drop p).take d) xs 6=V:=⟨_,rfl⟩
   have Ev:Hid (V=rowZ ws d xs k):=by show V=_;rw[eV,eV']
   have kp:Calls Tryz.prog 89 #[.slice (some (x.add p)) d (c0-p),.slice a2 d c2] wr fun e w'=>e=.returned (.tuple #[.int .i64 V,.int .i64 0])∧∃ m,w'=wr.drewN m:=by
    rw[←eV']
    exact refDot_same _ _ _ _ _ _ _ _ hcut hr2
   have hsub:q-p=d:=by omega
   have hne:¬c0=p:=by omega
   have hpq:(p:Int)≤(q:Int):=by omega
   have hqc:(q:Int)≤(c0:Int):=by omega
   have hqm:(q:Int)≤9223372036854775807:=by omega
   have hsz:=hbr.size
   clear eq eq' ep eV eV' hr0 hr2 hcut h0 h2
   go_wp2_with (first
    | (go_at_call 89;refine kp.mono ?_;rintro e w' ⟨rfl,m,rfl⟩)
    | (at_builtin;refine wpList_append_own _ rfl (.tmp 57) (.tmp 59) 34 rfl w.heap.size 2 i0 (.int .i64 0) 1 8 Tryz.underlying34 hi hz0 hz1 hz2 rfl (by decide) _ _ _ rfl (World.ownsRow.alloc (w:=wr.drewN m) ho _) ⟨_,0,none⟩ 1 1 [.int .i64 V] rfl rfl (one_new _ _ _) (oOc _ _) (by unfold maxLen;omega) (by omega) (by simp;omega) ?_;intro v' w1 ho' hg _))
   go_roundw
   case rel=>exact⟨k+1,by omega,by go_num,aSt (wr:=wr.drewN m) hsz Ev.out (bDr hbr ⟨m,rfl⟩) ho ho' hg⟩
   case measure=>simp[intOf];omega
  ·have e:k=R:=by omega
   subst e
   have fin:=oRe (zs:=(List.range k).map (rowZ ws d xs)) ho (by simp) (fun z hz=>by obtain⟨y,_,rfl⟩:=List.mem_map.1 hz;exact wCz _) (fun j hj=>by rw[gath_at _ _ _ _ hj];simp[hj])
   obtain⟨a,c,rfl,hr⟩:=fin
   have cp:Hid (_≤_):=own_cap ho
   have fr:Hid (∀ x,a=some x→w.heap.size≤x.block):=fun x hx=>(ho.lt x.block (by rw[hx];rfl)).1
   clear ho
   go_wp2
   go_ret2
   exact⟨⟨_,_,rfl,hr,fr.out,cp.out⟩,hbr⟩
theorem mat_not (a0:Option Addr)(n c0:Nat)(r:Int)(a2:Option Addr)(d c2:Nat)(w:World)(hm:n≤9223372036854775807)(hm2:d≤9223372036854775807)(hr:(Lit.int .i64 r).wf=true)
  (h:¬(0<d∧n%d=0∧((n/d:Nat):Int)=r)) :
  Calls Tryz.prog 49 #[.slice a0 n c0,.int .i64 r,.slice a2 d c2] w fun e w'=>e=.returned (.tuple #[.slice none 0 0,.int .i64 21])∧w'=w:=by
 have kf:∀ W,Calls Tryz.prog 87 #[.int .i64 n,.int .i64 r,.int .i64 d] W fun e w'=>e=.returned (.bool false)∧w'=W:=fun W=>by
  have:=fits_call n d r hm hm2 hr W
  rwa [decide_eq_false h] at this
 clear h
 go_enter Tryz.func49,Tryz.ntmps49
 go_wp2_with (go_at_call 87;refine (kf _).mono ?_;rintro e w' ⟨rfl,h⟩;obtain rfl:=h.symm)
 go_ret2
 exact⟨rfl,rfl⟩
theorem refMat_not (a0:Option Addr)(n c0:Nat)(r:Int)(a2:Option Addr)(d c2:Nat)(w:World)(hm:n≤9223372036854775807)(hm2:d≤9223372036854775807)(hr:(Lit.int .i64 r).wf=true)
  (h:¬(0<d∧n%d=0∧((n/d:Nat):Int)=r)) :
  Calls Tryz.prog 51 #[.slice a0 n c0,.int .i64 r,.slice a2 d c2] w fun e w'=>e=.returned (.tuple #[.slice none 0 0,.int .i64 21])∧w'=w:=by
 by_cases r0:r<0
 ·clear h
  go_enter Tryz.func51,Tryz.ntmps51
  go_wp2
  go_ret2
  exact⟨rfl,rfl⟩
 by_cases d0:d=0
 ·subst d0
  clear h
  go_enter Tryz.func51,Tryz.ntmps51
  go_wp2
  go_ret2
  exact⟨rfl,rfl⟩
 have e3:((d:Int)==0)=false:=by simp;omega
 have q0:0≤(n:Int)/(d:Int):=Int.ediv_nonneg (by omega) (by omega)
 have q1:(n:Int)/(d:Int)≤n:=Int.ediv_le_self _ (by omega)
 have eq:((n/d:Nat):Int)=(n:Int)/(d:Int):=Int.natCast_ediv n d
 have er:((n%d:Nat):Int)=(n:Int)%(d:Int):=Int.natCast_emod n d
 obtain⟨q,eq'⟩:∃ q,(n:Int)/(d:Int)=q:=⟨_,rfl⟩
 obtain⟨m,er'⟩:∃ m,(n:Int)%(d:Int)=m:=⟨_,rfl⟩
 rw[eq'] at q0 q1 eq
 rw[er'] at er
 have hd0:0<(d:Int):=by omega
 by_cases m0:m=0
 ·subst m0
  have hq:(q==r)=false:=by
   simp
   intro hq
   exact h ⟨by omega,by omega,by rw[eq];exact hq⟩
  clear h eq er
  go_enter Tryz.func51,Tryz.ntmps51
  go_wp2
  go_ret2
  exact⟨rfl,rfl⟩
 ·have m0':(m==0)=false:=by simp[m0]
  clear h eq er
  go_enter Tryz.func51,Tryz.ntmps51
  go_wp2
  go_ret2
  exact⟨rfl,rfl⟩
theorem mat_yes (a0:Option Addr)(n c0:Nat)(ws:List Int)(r:Int)(a2:Option Addr)(d c2:Nat)(xs:List Int)(w:World)
  (h0:Reads .i8 w a0 n ws) (hc:n≤c0) (h2:Reads .i64 w a2 d xs) (hf:fitB n r d=true) (hb:n*8≤140737488355328) :
  Calls Tryz.prog 49 #[.slice a0 n c0,.int .i64 r,.slice a2 d c2] w fun e w'=>(∃ cs,e=.returned (.tuple #[.slice (some ⟨w.heap.size,0,none⟩) (n/d) (n/d),.int .i64 0])∧Reads .i64 w' (some ⟨w.heap.size,0,none⟩) (n/d) (matL ws xs) ∧
   w'.ownsRow w.heap.size 2 1 (.slice (some ⟨w.heap.size,0,none⟩) (n/d) (n/d)) (n/d) cs∧∀ j,j<n/d→cs[j]? = some (.int .i64 (rowZ ws d xs j)))∧Below w.heap.size w w':=by
 obtain⟨hd,hn,hr⟩:=fitB_yes hf
 have hle:=Nat.div_le_self n d
 rw[hr]
 refine (mat_fits a0 n c0 ws (n/d) a2 d c2 xs w h0 hc h2 hd hn (by omega)).mono ?_
 rintro e w' ⟨⟨a,c,cs,he,hR,rfl,rfl,ho,hcs⟩,hB⟩
 refine⟨⟨cs,he,?_,ho,hcs⟩,hB⟩
 unfold matL
 rw[h0.len,h2.len]
 exact hR
theorem refMat_yes (a0:Option Addr)(n c0:Nat)(ws:List Int)(r:Int)(a2:Option Addr)(d c2:Nat)(xs:List Int)(w:World)
  (h0:Reads .i8 w a0 n ws) (hc:n≤c0) (h2:Reads .i64 w a2 d xs) (hf:fitB n r d=true) (hb:n*8≤140737488355328) :
  Calls Tryz.prog 51 #[.slice a0 n c0,.int .i64 r,.slice a2 d c2] w fun e w'=>(∃ a c,e=.returned (.tuple #[.slice a (n/d) c,.int .i64 0])∧Reads .i64 w' a (n/d) (matL ws xs)∧∀ x,a=some x→w.heap.size≤x.block)∧Below w.heap.size w w':=by
 obtain⟨hd,hn,hr⟩:=fitB_yes hf
 have hle:=Nat.div_le_self n d
 rw[hr]
 refine (refMat_fits a0 n c0 ws (n/d) a2 d c2 xs w h0 hc h2 hd hn (by omega)).mono ?_
 rintro e w' ⟨⟨a,c,he,hR,fr⟩,hB⟩
 refine⟨⟨a,c,he,?_,fr.1⟩,hB⟩
 unfold matL
 rw[h0.len,h2.len]
 exact hR
theorem refMat_no (a0:Option Addr)(n c0:Nat)(r:Int)(a2:Option Addr)(d c2:Nat)(w:World)(hm:n≤9223372036854775807)(hm2:d≤9223372036854775807)(hr:(Lit.int .i64 r).wf=true)(hf:fitB n r d=false) :
  Calls Tryz.prog 51 #[.slice a0 n c0,.int .i64 r,.slice a2 d c2] w fun e w'=>e=.returned (.tuple #[.slice none 0 0,.int .i64 21])∧w'=w :=
 refMat_not a0 n c0 r a2 d c2 w hm hm2 hr (of_decide_eq_false hf)
theorem blend_call (a0:Option Addr)(K c0:Nat)(zs:List Int)(a1:Option Addr)(c1:Nat)(A:Nat→Option Addr)(C:Nat→Nat)(R:Nat→List Int)(i:Nat)(w:World)
  (h0:Reads .i64 w a0 K zs) (h1:Grid w a1 K A C R) (hi:∀ j,j<K→i<(R j).length) (zb:∀ j,-2147483648≤zs.getD j 0∧zs.getD j 0≤2147483647) (rb:∀ j,j<K→-2147483648≤(R j).getD i 0∧(R j).getD i 0≤2147483647) :
  Calls Tryz.prog 140 #[.slice a0 K c0,.slice a1 K c1,.int .i64 i] w fun e w'=>e=.returned (.int .i64 (blendZ (fun j=>zs.getD j 0) R K i))∧w'=w:=by
 have hm:=h0.max
 go_enter Tryz.func140,Tryz.ntmps140
 go_wp2
 go_loopw [7,12] (fun s j wr=>∃ k:Nat,k≤K∧j=.int .i64 k∧s=.int .i64 (blendTo (fun j=>zs.getD j 0) R i k)∧wr=w) (fun _ j _=>K-(intOf j).toNat)
 case atStart=>exact⟨0,Nat.zero_le _,rfl,rfl,rfl⟩
 case round =>
  obtain⟨k,hk,rfl,rfl,hw⟩:=hrel
  subst hw
  by_cases hlt:k<K
  ·obtain⟨x,rfl⟩:=h0.some_ (by omega)
   obtain⟨y,rfl⟩:=h1.some_ (by omega)
   have cx:=h0.cell x rfl k hlt
   have cy:=h1.cell y rfl k hlt
   have hik:=hi k hlt
   have rk:=h1.row k hlt
   obtain⟨z,ez⟩:=rk.some_ (by omega)
   have cz:=rk.cell z ez i hik
   rw[ez] at cy
   have b1:=zb k
   have b2:=rb k hlt
   have es:blendTo (fun j=>zs.getD j 0) R i (k+1)=addZ (blendTo (fun j=>zs.getD j 0) R i k) (zs.getD k 0*(R k).getD i 0):=rfl
   have wS:=wf_blendTo (fun j=>zs.getD j 0) R i k
   have pb:=prodM_bounds _ _ b1 b2
   obtain⟨Z,eZ⟩:∃ Z,zs.getD k 0=Z:=⟨_,rfl⟩
   obtain⟨Y,eY⟩:∃ Y,(R k).getD i 0=Y:=⟨_,rfl⟩
   obtain⟨T,eT⟩:∃ T,blendTo (fun j=>zs.getD j 0) R i k=T:=⟨_,rfl⟩
   obtain⟨n,en⟩:∃ n,(R k).length=n:=⟨_,rfl⟩
   rw[eZ,eY] at pb
   rw[eZ] at cx es
   rw[eY] at cz es
   rw[eT] at es wS ⊢
   rw[en] at cy hik
   obtain⟨Pz,eP⟩:∃ Pz,Z*Y=Pz:=⟨_,rfl⟩
   rw[eP] at pb es
   obtain⟨p0,p1⟩:=pb
   have wP:(Lit.int .i64 Pz).wf=true:=WalkArith.wf_i64 ⟨by omega,by omega⟩
   have Es:Hid (blendTo (fun j=>zs.getD j 0) R i (k+1)=addZ T Pz):=es
   clear es eZ eY eT en b1 b2 rk ez
   have ka:=fun W=>add_call T Pz wS wP W
   go_wp2_with (go_at_call 113;refine (ka _).mono ?_;rintro e w' ⟨rfl,hq⟩;obtain rfl:=hq.symm)
   go_roundw
   case rel=>exact⟨k+1,by omega,by go_num,by rw[Es.out],trivial⟩
   case measure=>simp[intOf];omega
  ·have e:k=K:=by omega
   subst e
   have wS:=wf_blendTo (fun j=>zs.getD j 0) R i k
   obtain⟨T,eT⟩:∃ T,blendTo (fun j=>zs.getD j 0) R i k=T:=⟨_,rfl⟩
   have Et:Hid (blendTo (fun j=>zs.getD j 0) R i k=T):=eT
   rw[eT] at wS ⊢
   clear eT
   have ks:=fun W=>shift_call T 16 wS (by decide) W
   go_wp2_with (first
    | (go_at_call 115;refine (ks _).mono ?_;rintro e w' ⟨rfl,hq⟩;obtain rfl:=hq.symm)
    | (go_at_call 114;refine (cCa _ _).mono ?_;rintro e w' ⟨rfl,hq⟩;obtain rfl:=hq.symm))
   go_ret
   exact⟨by unfold blendZ;rw[Et.out];rfl,rfl⟩
end Go.Proofs.YthliomlmhfjhnaaGreat

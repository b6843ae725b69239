/- Texts put together. -/
import Derived.Test.YthliomlmhfjhnaaGreatRows
import Derived.Test.YthliomlmhfjhnaaGreatZf11
import Derived.Test.YthliomlmhfjhnaaGreatZf9
import Derived.Test.YthliomlmhfjhnaaGreatZf12
namespace Go.Proofs.YthliomlmhfjhnaaGreat
set_option maxRecDepth 20000
set_option maxHeartbeats 16000000
open Go.ChangeShapes Go.WideShapes Go.ChangeAt Go.RowKit
set_option linter.unusedVariables false
set_option linter.unusedSimpArgs false
section
def fitB (n:Nat)(r:Int)(d:Nat):Bool:=decide (0<d∧n%d=0∧((n/d:Nat):Int)=r)
def matL (ws xs:List Int):List Int:=(List.range (ws.length/xs.length)).map (rowZ ws xs.length xs)
def hidL (up xs:List Int):List Int:=(matL up xs).map siluZ
def oneB (up down:List Int)(h:Int)(xs:List Int):Bool:=fitB up.length h xs.length && fitB down.length (xs.length:Int) (hidL up xs).length
def oneL (up down xs:List Int):List Int:=matL down (hidL up xs)
theorem matL_length (ws xs:List Int):(matL ws xs).length=ws.length/xs.length:=by simp[matL]
theorem hidL_length (up xs:List Int):(hidL up xs).length=up.length/xs.length:=by simp[hidL,matL]
theorem fitB_yes {n d:Nat}{r:Int}(h:fitB n r d=true):0<d∧n=n/d*d∧r=((n/d:Nat):Int):=by
 obtain⟨h1,h2,h3⟩:=of_decide_eq_true h
 have:=Nat.div_add_mod n d
 rw[h2,Nat.mul_comm] at this
 exact⟨h1,by omega,h3.symm⟩
theorem oneL_length {up down xs:List Int}{h:Int}(hb:oneB up down h xs=true):(oneL up down xs).length=xs.length:=by
 unfold oneB at hb
 rw[Bool.and_eq_true] at hb
 have:=(fitB_yes hb.2).2.2
 unfold oneL
 rw[matL_length]
 omega
theorem matL_at (ws xs:List Int)(j:Nat)(h:j<ws.length/xs.length):(matL ws xs).getD j 0=rowZ ws xs.length xs j:=by
 simp[matL,List.getD,h]
theorem hidL_at (up xs:List Int)(j:Nat)(h:j<up.length/xs.length):(hidL up xs).getD j 0=siluZ (rowZ up xs.length xs j):=by
 simp[hidL,matL,List.getD,h]
theorem matL_bounds (ws xs:List Int)(j:Nat):-2147483648≤(matL ws xs).getD j 0∧(matL ws xs).getD j 0≤2147483647:=by
 by_cases h:j<ws.length/xs.length
 ·rw[matL_at _ _ _ h]
  exact clampZ_bounds _
 ·have e:(matL ws xs).getD j 0=0:=by simp[matL,List.getD,h]
  rw[e]
  omega
end
section
def plc (router xs:List Int)(j:Nat):Nat:=(places (matL router xs)).getD j 0
def chosenL (router:List Int)(K:Nat)(xs:List Int):List Int:=(List.range K).map fun j=>(matL router xs).getD (plc router xs j) 0
def routeP (router:List Int)(k:Int)(xs:List Int):List Int:=pickZ (matL router xs) k
def routeS (router:List Int)(k:Int)(xs:List Int):List Int:=softZ (chosenL router k.toNat xs) k.toNat
def routeE (router:List Int)(E k:Int)(xs:List Int):Int:=if k<1∨E<k then 20 else if fitB router.length E xs.length then 0 else 21
def routeB (router:List Int)(E k:Int)(xs:List Int):Bool:=decide (1≤k) && decide (k≤E) && fitB router.length E xs.length
theorem routeE_no {router xs:List Int}{E k:Int}(h:routeB router E k xs=false):routeE router E k xs=20∨routeE router E k xs=21:=by
 unfold routeE
 by_cases h1:k<1∨E<k
 ·rw[if_pos h1];exact .inl rfl
 ·rw[if_neg h1]
  cases hf:fitB router.length E xs.length with
  | true =>
   exfalso
   unfold routeB at h
   rw[hf,decide_eq_true (by omega:1≤k),decide_eq_true (by omega:k≤E)] at h
   cases h
  | false=>exact .inr rfl
theorem routeE_ne {router xs:List Int}{E k:Int}(h:routeB router E k xs=false):¬routeE router E k xs=0:=by
 rcases routeE_no h with e|e<;>rw[e]<;>decide
theorem plc_lt {router xs:List Int}{E k:Int}(h:routeB router E k xs=true){j:Nat}(hj:j<k.toNat):((plc router xs j:Nat):Int)<E:=by
 unfold routeB at h
 simp only[Bool.and_eq_true,decide_eq_true_eq] at h
 have hE:=(fitB_yes h.2).2.2
 have hl:=matL_length router xs
 have:=(places_ordered (matL router xs)).lt (m:=j) (by omega)
 unfold plc
 omega
theorem routeP_at {router xs:List Int}{E k:Int}(h:routeB router E k xs=true){j:Nat}(hj:j<k.toNat):(routeP router k xs).getD j 0=(plc router xs j:Nat):=by
 unfold routeB at h
 simp only[Bool.and_eq_true,decide_eq_true_eq] at h
 have hE:=(fitB_yes h.2).2.2
 have hl:=matL_length router xs
 exact topZ_at _ _ _ (by omega)
theorem shareF_bounds (z:List Int)(t S:Int)(j:Nat):-2147483648≤shareF z t S j∧shareF z t S j≤2147483647:=by
 unfold shareF divZ
 split
 ·unfold noughtZ
  repeat' split
  all_goals omega
 ·exact clampZ_bounds _
theorem routeS_bounds (router:List Int)(k:Int)(xs:List Int)(j:Nat):-2147483648≤(routeS router k xs).getD j 0∧(routeS router k xs).getD j 0≤2147483647:=by
 unfold routeS softZ
 by_cases h:j<k.toNat
 ·have e:∀ f:Nat→Int,((List.range k.toNat).map f).getD j 0=f j:=fun f=>by simp[List.getD,h]
  rw[e]
  exact shareF_bounds _ _ _ _
 ·have e:∀ f:Nat→Int,((List.range k.toNat).map f).getD j 0=0:=fun f=>by simp[List.getD,h]
  rw[e]
  omega
end
section
def blendTo (sh:Nat→Int)(ro:Nat→List Int)(i:Nat):Nat→Int
 | 0=>0
 | k+1=>addZ (blendTo sh ro i k) (sh k*(ro k).getD i 0)
def blendZ (sh:Nat→Int)(ro:Nat→List Int)(K:Nat)(i:Nat):Int:=clampZ (shiftZ (blendTo sh ro i K) 16)
theorem wf_blendTo (sh:Nat→Int)(ro:Nat→List Int)(i k:Nat):(Lit.int .i64 (blendTo sh ro i k)).wf=true:=by
 cases k with
 | zero=>show (Lit.int .i64 0).wf=true;decide
 | succ k=>exact wf_addZ _ _
def rowsL (router:List Int)(U D:Nat→List Int)(xs:List Int)(j:Nat):List Int:=oneL (U (plc router xs j)) (D (plc router xs j)) xs
def restB (router:List Int)(U D:Nat→List Int)(h:Int)(K:Nat)(xs:List Int):Bool:=(List.range K).all fun j=>oneB (U (plc router xs j)) (D (plc router xs j)) h xs
def sh (router:List Int)(k:Int)(xs:List Int)(j:Nat):Int:=(routeS router k xs).getD j 0
def sumL (router:List Int)(U D:Nat→List Int)(k:Int)(xs:List Int):List Int:=(List.range xs.length).map (blendZ (sh router k xs) (rowsL router U D xs) k.toNat)
def mixE (router:List Int)(n m:Nat)(U D:Nat→List Int)(h k:Int)(xs:List Int):Int :=
 if n=0∨n≠m then 21 else if n=1 then (if oneB (U 0) (D 0) h xs then 0 else 21)
 else if routeB router n k xs=false then routeE router n k xs else if restB router U D h k.toNat xs then 0 else 21
def mixL (router:List Int)(n:Nat)(U D:Nat→List Int)(k:Int)(xs:List Int):List Int:=if n=1 then oneL (U 0) (D 0) xs else sumL router U D k xs
theorem restB_yes {router:List Int}{U D:Nat→List Int}{h:Int}{K:Nat}{xs:List Int}(hb:restB router U D h K xs=true){j:Nat}(hj:j<K):oneB (U (plc router xs j)) (D (plc router xs j)) h xs=true :=
 List.all_eq_true.1 hb j (List.mem_range.2 hj)
theorem sumL_length (router:List Int)(U D:Nat→List Int)(k:Int)(xs:List Int):(sumL router U D k xs).length=xs.length:=by simp[sumL]
theorem sumL_at (router:List Int)(U D:Nat→List Int)(k:Int)(xs:List Int)(i:Nat)(h:i<xs.length):(sumL router U D k xs).getD i 0=blendZ (sh router k xs) (rowsL router U D xs) k.toNat i:=by simp[sumL,List.getD,h]
theorem wf_sumL (router:List Int)(U D:Nat→List Int)(k:Int)(xs:List Int):∀ z∈sumL router U D k xs,(Lit.int .i64 z).wf=true:=by
 intro z hz
 obtain⟨y,_,rfl⟩:=List.mem_map.1 hz
 exact wf_clampZ _
end
section
def scoreF (q:List Int)(K:Nat→List Int)(d:Nat)(i:Nat):Int:=mulZ (atdotZ q (K i) 16) (rsqrtZ ((d:Int)*65536))
def scoresZ (q:List Int)(K:Nat→List Int)(d n:Nat):List Int:=(List.range n).map (scoreF q K d)
def atblendTo (s:List Int)(V:Nat→List Int)(j:Nat):Nat→Int
 | 0=>0
 | k+1=>addZ (atblendTo s V j k) (s.getD k 0*clampZ ((V k).getD j 0))
def atblendZ (s:List Int)(V:Nat→List Int)(n j:Nat):Int:=clampZ (shiftZ (atblendTo s V j n) 16)
def headZ (q:List Int)(K V:Nat→List Int)(d n:Nat):List Int:=(List.range d).map (atblendZ (softZ (scoresZ q K d n) n) V n)
theorem atwf_blendTo (s:List Int)(V:Nat→List Int)(j k:Nat):(Lit.int .i64 (atblendTo s V j k)).wf=true:=by
 cases k with
 | zero=>show (Lit.int .i64 0).wf=true;decide
 | succ k=>exact wf_addZ _ _
theorem wf_blendZ (s:List Int)(V:Nat→List Int)(n j:Nat):(Lit.int .i64 (atblendZ s V n j)).wf=true:=wf_clampZ _
theorem wf_headZ (q:List Int)(K V:Nat→List Int)(d n:Nat):∀ z∈headZ q K V d n,(Lit.int .i64 z).wf=true:=fun z hz=>by
 obtain⟨y,_,rfl⟩:=List.mem_map.1 hz
 exact wf_blendZ _ _ _ _
theorem headZ_length (q:List Int)(K V:Nat→List Int)(d n:Nat):(headZ q K V d n).length=d:=by simp[headZ]
theorem scoresZ_length (q:List Int)(K:Nat→List Int)(d n:Nat):(scoresZ q K d n).length=n:=by simp[scoresZ]
theorem wf_mulZ (a b:Int):(Lit.int .i64 (mulZ a b)).wf=true:=wf_clampZ _
theorem wf_dotZ (a b:List Int)(n:Int):(Lit.int .i64 (atdotZ a b n)).wf=true:=wf_clampZ _
theorem rsqrtZ_bounds (x:Int):0≤rsqrtZ x∧rsqrtZ x≤2147483647:=by
 unfold rsqrtZ
 split
 ·omega
 ·have q:=quot_bounds (clampZ x) (by omega)
  have s:=rootZ_spec _ q.1 q.2
  refine⟨s.1,?_⟩
  rcases Int.lt_or_le 2147483647 (rootZ (281474976710656/clampZ x)) with h|h
  ·have:2147483648*2147483648≤rootZ (281474976710656/clampZ x)*rootZ (281474976710656/clampZ x):=Int.mul_le_mul (by omega) (by omega) (by omega) (by omega)
   omega
  ·exact h
theorem wf_rsqrtZ (x:Int):(Lit.int .i64 (rsqrtZ x)).wf=true:=by
 have:=rsqrtZ_bounds x
 exact WalkArith.wf_i64 ⟨by omega,by omega⟩
theorem softZ_bounds (z:List Int)(n k:Nat):-2147483648≤(softZ z n).getD k 0∧(softZ z n).getD k 0≤2147483647:=by
 by_cases h:k<n
 ·have e:(softZ z n).getD k 0=shareF z (topZ (-2147483648) z n) (sumE z (topZ (-2147483648) z n) n) k:=by simp[softZ,h]
  rw[e]
  unfold shareF divZ
  split
  ·unfold noughtZ
   repeat' split
   all_goals omega
  ·exact clampZ_bounds _
 ·have e:(softZ z n).getD k 0=0:=by simp[softZ,h]
  rw[e]
  omega
end
section
theorem len_mul (d:Nat)(hb:d*8≤140737488355328):0≤(d:Int)*65536∧(d:Int)*65536≤9223372036854775807:=by omega
theorem scores_call (a0 : Option Addr) (d c0 : Nat) (q : List Int) (a1 : Option Addr) (n c1 : Nat) (A : Nat → Option Addr) (C : Nat → Nat) (K : Nat → List Int) (w : World)
    (h0 : Reads .i64 w a0 d q) (h1 : Grid w a1 n A C K) (hr : ∀ r, r < n → (K r).length = d) (hb0 : d * 8 ≤ 140737488355328) (hb1 : n * 8 ≤ 140737488355328) :
    Calls Tryz.prog 119 #[.slice a0 d c0, .slice a1 n c1] w fun e w' => (∃ a c, e = .returned (.slice a n c) ∧ Reads .i64 w' a n (scoresZ q K d n)) ∧ Below w.heap.size w w' := by
  obtain ⟨i0, hi, hz0, hz1, hz2⟩ := info_parts info2
  have hm := h1.max
  have lm := len_mul d hb0
  have kr := rsqrt_call ((d : Int) * 65536)
  have wr' := wf_rsqrtZ ((d : Int) * 65536)
  have ef : ∀ i, scoreF q K d i = mulZ (atdotZ q (K i) 16) (rsqrtZ ((d : Int) * 65536)) := fun _ => rfl
  obtain ⟨S, eS⟩ : ∃ S, rsqrtZ ((d : Int) * 65536) = S := ⟨_, rfl⟩
  rw [eS] at kr wr'
  simp only [eS] at ef
  clear eS
  go_enter Tryz.func119, Tryz.ntmps119
  go_wp2_with (first
    | (go_at_call 101; refine (kr _).mono ?_; rintro e w' ⟨rfl, h⟩; obtain rfl := h.symm)
    | (at_make; refine wpList_make_full _ rfl (.tmp 16) (.tmp 16) 34 rfl w.heap.size 2 i0 (.int .i64 0) 1 Tryz.underlying34 hi hz0 hz1 .i64 .i64 _ _ n rfl rfl rfl rfl (by rw [hz2]; omega) (by unfold maxLen; omega) (Nat.le_refl _) ?_; intro w1 hown hgrow))
  have hbel : Below w.heap.size w w1 := (Below.refl _ _).grown hgrow (Nat.le_refl _) (fun k h => by cases h)
  go_wp2
  go_loopw [20] (fun i wr => ∃ k : Nat, k ≤ n ∧ i = .int .i64 k ∧ Below w.heap.size w wr ∧ ∃ cs, wr.ownsRow w.heap.size 2 1 (.slice (some ⟨w.heap.size, 0, none⟩) n n) n cs ∧ ∀ j, j < k → cs[j]? = some (.int .i64 (scoreF q K d j))) (fun i _ => n - (intOf i).toNat)
  case atStart => exact ⟨0, Nat.zero_le _, rfl, hbel, _, hown, fun j hj => by omega⟩
  case round =>
    obtain ⟨k, hk, rfl, hbr, cs, ho, hcs⟩ := hrel
    by_cases hlt : k < n
    · have hg := h1.below hbr
      obtain ⟨x, rfl⟩ := h1.some_ (by omega)
      have cx := hg.cell x rfl k hlt
      have rk := hg.row k hlt
      rw [hr k hlt] at cx rk
      have ki := inner_call a0 d c0 q (A k) d (C k) (K k) wr (h0.below hbr) rk
      simp only [if_true] at ki
      have wd := wf_dotZ q (K k) 16
      have hlen := own_length ho
      have efk := ef k
      obtain ⟨D, eD⟩ : ∃ D, atdotZ q (K k) 16 = D := ⟨_, rfl⟩
      rw [eD] at ki wd efk
      have km := fun W => mul_call D S wd wr' W
      rw [← efk] at km
      have step := fun (W : World) (hs : W.ownsRow w.heap.size 2 1 (.slice (some ⟨w.heap.size, 0, none⟩) n n) n cs) => And.intro (hs.stored k (.int .i64 (scoreF q K d k))).1 (set_step (F := fun j => Value.int .i64 (scoreF q K d j)) hlen hlt rfl hcs)
      obtain ⟨u, hu⟩ : ∃ u, cs[k]? = some u := ⟨cs[k], by simp [hlen, hlt]⟩
      obtain ⟨E, eE⟩ : ∃ E, scoreF q K d k = E := ⟨_, rfl⟩
      rw [eE] at km step
      clear eE efk eD ef hg rk hown hgrow hbel hi hz0 hz1 hz2 h1 h0 hr kr hcs
      go_wp2_with (first
        | (go_at_call 136; refine ki.mono ?_; rintro e W2 ⟨rfl, hq⟩
           have hb2 := below_drew (Below.refl wr.heap.size wr) hq
           have ho2 := own_below ho hb2
           have cell2 : W2.cell? ⟨w.heap.size, k, none⟩ = some u := (ho2.cellAt k (by omega)).trans hu
           have froz2 := ho2.frozenAt k
           have st2 := step W2 ho2
           have R : Hid (Below w.heap.size w (W2.setCell ⟨w.heap.size, k, none⟩ (.int .i64 E)) ∧ ∃ cs', (W2.setCell ⟨w.heap.size, k, none⟩ (.int .i64 E)).ownsRow w.heap.size 2 1 (.slice (some ⟨w.heap.size, 0, none⟩) n n) n cs' ∧ ∀ j, j < k + 1 → cs'[j]? = some (.int .i64 (scoreF q K d j))) :=
             ⟨(bTn hbr hb2).setCell (Nat.le_refl _) _, _, st2.1, st2.2⟩
           clear ho2 st2 hb2 hq ki)
        | (go_at_call 104; refine (km _).mono ?_; rintro e w' ⟨rfl, h⟩; obtain rfl := h.symm))
      go_roundw
      case rel => exact ⟨k + 1, by omega, by go_num, R.out⟩
      case measure => simp [intOf]; omega
    · have e : k = n := by omega
      subst e
      have fin := own_reads_at (zs := scoresZ q K d k) ho (scoresZ_length ..) (fun z hz => by obtain ⟨y, _, rfl⟩ := List.mem_map.1 hz; exact wf_mulZ _ _) (fun i hi => by rw [hcs i hi]; simp [scoresZ, hi])
      clear hcs ho
      go_wp2
      go_ret
      exact ⟨⟨_, _, rfl, fin⟩, hbr⟩
theorem atblend_call (a0:Option Addr)(n c0:Nat)(s:List Int)(a2:Option Addr)(m c2:Nat)(A:Nat→Option Addr)(C:Nat→Nat)(V:Nat→List Int)(d j:Nat)(w:World)
  (h0:Reads .i64 w a0 n s) (h2:Grid w a2 m A C V) (hnm:n=m) (hr:∀ r,r<n→(V r).length=d) (hj:j<d) (hs:∀ k,-2147483648≤s.getD k 0∧s.getD k 0≤2147483647) :
  Calls Tryz.prog 120 #[.slice a0 n c0,.slice a2 m c2,.int .i64 j] w fun e w'=>e=.returned (.int .i64 (atblendZ s V n j))∧w'=w:=by
 subst hnm
 have hm:=h0.max
 unfold atblendZ
 go_enter Tryz.func120,Tryz.ntmps120
 go_wp2
 go_loopw [7,12] (fun b i wr=>∃ k:Nat,k≤n∧i=.int .i64 k∧b=.int .i64 (atblendTo s V j k)∧wr=w) (fun _ i _=>n-(intOf i).toNat)
 case atStart=>exact⟨0,Nat.zero_le _,rfl,rfl,rfl⟩
 case round =>
  obtain⟨k,hk,rfl,rfl,hw⟩:=hrel
  subst hw
  by_cases hlt:k<n
  ·obtain⟨x,rfl⟩:=h0.some_ (by omega)
   obtain⟨y,rfl⟩:=h2.some_ (by omega)
   have cx:=h0.cell x rfl k hlt
   have cy:=h2.cell y rfl k hlt
   have rk:=h2.row k hlt
   rw[hr k hlt] at cy rk
   have hd:=rk.max
   obtain⟨z,ez⟩:=rk.some_ (by omega)
   have cz:=rk.cell z ez j hj
   rw[ez] at cy
   have es:atblendTo s V j (k+1)=addZ (atblendTo s V j k) (s.getD k 0*clampZ ((V k).getD j 0)):=rfl
   have ws:=atwf_blendTo s V j k
   have bs:=hs k
   obtain⟨X,eX⟩:∃ X,s.getD k 0=X:=⟨_,rfl⟩
   obtain⟨Y,eY⟩:∃ Y,(V k).getD j 0=Y:=⟨_,rfl⟩
   obtain⟨S,eS⟩:∃ S,atblendTo s V j k=S:=⟨_,rfl⟩
   rw[eX] at cx es bs
   rw[eY] at cz es
   rw[eS] at es ws ⊢
   have bc:=clampZ_bounds Y
   have bp:=prodD_bounds _ _ bs bc
   have kc:=fun W=>clamp_call Y W
   have wp:(Lit.int .i64 (X*clampZ Y)).wf=true:=WalkArith.wf_i64 ⟨by omega,by omega⟩
   obtain⟨Z,eZ⟩:∃ Z,clampZ Y=Z:=⟨_,rfl⟩
   rw[eZ] at es bc bp kc wp
   have ka:=fun W=>add_call S (X*Z) ws wp W
   have Es:Hid (atblendTo s V j (k+1)=addZ S (X*Z)):=es
   obtain⟨T,eT⟩:∃ T,addZ S (X*Z)=T:=⟨_,rfl⟩
   rw[eT] at Es ka
   obtain⟨b1,b2⟩:=bp
   clear eX eY eS eZ eT es rk h0 h2 hr hs
   go_wp2_with (first
    | (go_at_call 114;refine (kc _).mono ?_;rintro e w' ⟨rfl,h⟩;obtain rfl:=h.symm)
    | (go_at_call 113;refine (ka _).mono ?_;rintro e w' ⟨rfl,h⟩;obtain rfl:=h.symm))
   go_roundw
   case rel=>exact⟨k+1,by omega,by go_num,by rw[Es.out],trivial⟩
   case measure=>simp[intOf];omega
  ·have e:k=n:=by omega
   subst e
   have ws:=atwf_blendTo s V j k
   go_wp2_with (first|(go_at_call 115;refine (shift_call _ _ ws (by decide) _).mono ?_;rintro e w' ⟨rfl,rfl⟩)|(go_at_call 114;refine (clamp_call _ _).mono ?_;rintro e w' ⟨rfl,rfl⟩))
   go_ret
   exact⟨rfl,rfl⟩
theorem head_yes (a0:Option Addr)(d c0:Nat)(q:List Int)(a1:Option Addr)(n c1:Nat)(A:Nat→Option Addr)(C:Nat→Nat)(K:Nat→List Int)(a2:Option Addr)(c2:Nat)(A':Nat→Option Addr)(C':Nat→Nat)(V:Nat→List Int)(w:World)
  (h0:Reads .i64 w a0 d q) (h1:Grid w a1 n A C K) (h2:Grid w a2 n A' C' V) (hd:0<d) (hn:0<n) (hr:∀ r,r<n→(K r).length=d∧(V r).length=d) (hb0:d*8≤140737488355328) (hb1:n*8≤140737488355328) :
  Calls Tryz.prog 98 #[.slice a0 d c0,.slice a1 n c1,.slice a2 n c2] w fun e w'=>(∃ a c,e=.returned (.tuple #[.slice a d c,.int .i64 0])∧Reads .i64 w' a d (headZ q K V d n)∧(a=none→c=0))∧Below w.heap.size w w':=by
 obtain⟨i0,hi,hz0,hz1,hz2⟩:=info_parts info2
 have hm:=h0.max
 have kf:=fits_yes a0 d c0 a1 n c1 A C K a2 c2 A' C' V w h1 h2 hd hn hr
 have kc:=scores_call a0 d c0 q a1 n c1 A C K w h0 h1 (fun r h=>(hr r h).1) hb0 hb1
 have sl:=softZ_bounds (scoresZ q K d n) n
 have eh:headZ q K V d n=(List.range d).map (atblendZ (softZ (scoresZ q K d n) n) V n):=rfl
 have wh:=wf_headZ q K V d n
 have lh:=headZ_length q K V d n
 have kso:=fun (W:World) a c (h:Reads .i64 W a n (scoresZ q K d n))=>soft_call a n c (scoresZ q K d n) W h (by omega)
 obtain⟨s,es⟩:∃ s,softZ (scoresZ q K d n) n=s:=⟨_,rfl⟩
 rw[es] at sl eh
 simp only[es] at kso
 obtain⟨t,et⟩:∃ t,scoresZ q K d n=t:=⟨_,rfl⟩
 simp only[et] at kso
 rw[et] at kc
 clear es et
 go_enter Tryz.func98,Tryz.ntmps98
 go_wp2_with (first
  | (go_at_call 96;refine kf.mono ?_;rintro e w' ⟨rfl,h⟩;obtain rfl:=h.symm;clear kf)
  | (go_at_call 119;refine kc.mono ?_;rintro e W1 ⟨⟨pa,pc,rfl,r1⟩,b1⟩;clear kc)
  | (go_at_call 118;refine (kso W1 pa pc r1).mono ?_;rintro e W2 ⟨⟨sa,sc,rfl,r2⟩,b2⟩;replace b2:=bTn b1 b2;clear kso r1)
  | (at_make;refine wpList_make_full _ rfl (.tmp 21) (.tmp 21) 34 rfl w.heap.size 2 i0 (.int .i64 0) 1 Tryz.underlying34 hi hz0 hz1 .i64 .i64 _ _ d rfl rfl rfl rfl (by rw[hz2];omega) (by unfold maxLen;omega) b2.size ?_;intro w1 hown hgrow))
 have b3:Below W2.heap.size W2 w1:=(Below.refl _ _).grown hgrow (Nat.le_refl _) (fun k h=>by cases h)
 have hg:=b2.size
 have g2:=h2.below b2
 clear hgrow h2 h1 h0 b1
 go_wp2
 go_loopw [25] (fun i wr=>∃ k:Nat,k≤d∧i=.int .i64 k∧Below W2.heap.size W2 wr∧∃ cs,wr.ownsRow w.heap.size 2 1 (.slice (some ⟨W2.heap.size,0,none⟩) d d) d cs∧∀ j,j<k→cs[j]? = some (.int .i64 (atblendZ s V n j))) (fun i _=>d-(intOf i).toNat)
 case atStart=>exact⟨0,Nat.zero_le _,rfl,b3,_,hown,fun j hj=>by omega⟩
 case round =>
  clear hown b3
  obtain⟨k,hk,rfl,hbr,cs,ho,hcs⟩:=hrel
  by_cases hlt:k<d
  ·have kb:=atblend_call sa n sc s a2 n c2 A' C' V d k wr (r2.below hbr) (g2.below hbr) rfl (fun r h=>(hr r h).2) hlt sl
   have hlen:=own_length ho
   obtain⟨u,hu⟩:∃ u,cs[k]? = some u:=⟨cs[k],by simp[hlen,hlt]⟩
   have cell:wr.cell? ⟨W2.heap.size,k,none⟩=some u:=(ho.cellAt k (by omega)).trans hu
   have froz:=ho.frozenAt k
   have R:Hid (Below W2.heap.size W2 (wr.setCell ⟨W2.heap.size,k,none⟩ (.int .i64 (atblendZ s V n k)))∧∃ cs',(wr.setCell ⟨W2.heap.size,k,none⟩ (.int .i64 (atblendZ s V n k))).ownsRow w.heap.size 2 1 (.slice (some ⟨W2.heap.size,0,none⟩) d d) d cs'∧∀ j,j<k+1→cs'[j]? = some (.int .i64 (atblendZ s V n j))) :=
    ⟨hbr.setCell (Nat.le_refl _) _,_,(ho.stored k _).1,set_step (F:=fun j=>Value.int .i64 (atblendZ s V n j)) hlen hlt rfl hcs⟩
   obtain⟨E,eE⟩:∃ E,atblendZ s V n k=E:=⟨_,rfl⟩
   rw[eE] at kb R
   clear eE ho hcs hlen hbr hr sl g2 r2 eh wh lh hi hz0 hz1 hz2 hu
   go_wp2_with (go_at_call 120;refine kb.mono ?_;rintro e w' ⟨rfl,h⟩;obtain rfl:=h.symm)
   go_roundw
   case rel=>exact⟨k+1,by omega,by go_num,R.out⟩
   case measure=>simp[intOf];omega
  ·have e:k=d:=by omega
   subst e
   have fin:=own_reads_at (zs:=headZ q K V k n) ho lh wh (fun i hi=>by rw[hcs i hi,eh];simp[hi])
   have bw:=bTn b2 hbr
   clear hcs ho
   go_wp2
   go_ret2
   exact⟨⟨_,_,rfl,fin,fun h=>by cases h⟩,bw⟩
end
section
def allL (q:List Int)(K V:Nat→List Int)(d n:Nat):Nat→List Int
 | 0=>[]
 | m+1=>allL q K V d n m++headZ ((q.drop (m*d)).take d) (cutR K (m*d) d) (cutR V (m*d) d) d n
theorem allL_length (q:List Int)(K V:Nat→List Int)(d n m:Nat):(allL q K V d n m).length=m*d:=by
 induction m with
 | zero=>simp[allL]
 | succ m ih=>rw[allL,List.length_append,ih,headZ_length,Nat.succ_mul]
theorem wf_allL (q:List Int)(K V:Nat→List Int)(d n m:Nat):∀ z∈allL q K V d n m,(Lit.int .i64 z).wf=true:=by
 induction m with
 | zero=>intro z hz;simp[allL] at hz
 | succ m ih =>
  intro z hz
  rw[allL,List.mem_append] at hz
  rcases hz with h|h
  ·exact ih z h
  ·exact wf_headZ _ _ _ _ _ z h
theorem part_room {H d m N:Nat}(e:H*d=N)(hm:m<H):m*d+d≤N:=by
 have h1:(m+1)*d≤H*d:=Nat.mul_le_mul_right d hm
 rw[Nat.succ_mul,e] at h1
 exact h1
theorem all_yes (x:Addr)(N c0 H:Nat)(q:List Int)(a1:Option Addr)(n c1:Nat)(A:Nat→Option Addr)(C:Nat→Nat)(K:Nat→List Int)(a2:Option Addr)(c2:Nat)(A':Nat→Option Addr)(C':Nat→Nat)(V:Nat→List Int)(w:World)
  (h0:Reads .i64 w (some x) N q) (l0:N≤c0) (h1:Grid w a1 n A C K) (hC:∀ r,r<n→(K r).length≤C r) (h2:Grid w a2 n A' C' V) (hC':∀ r,r<n→(V r).length≤C' r) (hH:0<H) (hN:0<N) (hn:0<n) (hmod:N%H=0) (hr:∀ r,r<n→(K r).length=N∧(V r).length=N)
  (hb0:N*8≤140737488355328) (hb1:n*24≤140737488355328) :
  Calls Tryz.prog 62 #[.slice (some x) N c0,.slice a1 n c1,.slice a2 n c2,.int .i64 H] w fun e w'=>(∃ a c,e=.returned (.tuple #[.slice a N c,.int .i64 0])∧Reads .i64 w' a N (allL q K V (N/H) n H)∧N≤c∧∀ x,a=some x→w.heap.size≤x.block)∧Below w.heap.size w w':=by
 obtain⟨i0,hi,hz0,hz1,hz2⟩:=info_parts info2
 have hm:=h0.max
 have kf:=fits_yes (some x) N c0 a1 n c1 A C K a2 c2 A' C' V w h1 h2 hN hn hr
 obtain⟨d,ed⟩:∃ d,N/H=d:=⟨_,rfl⟩
 have ed':(N:Int)/(H:Int)=(d:Int):=by rw[←ed];simp
 have er':(N:Int)%(H:Int)=0:=by omega
 have eH:H*d=N:=by rw[←ed,Nat.mul_comm];exact Nat.div_mul_cancel (Nat.dvd_of_mod_eq_zero hmod)
 rw[ed]
 have d0:0<d:=by
  rcases Nat.eq_zero_or_pos d with r|r
  ·subst r;simp at eH;omega
  ·exact r
 have hdn:d≤N:=by rw[←ed];exact Nat.div_le_self _ _
 clear ed hmod
 have z:((H:Int)==0)=false:=by simp;omega
 have hmf:∀ (fn:Fn) (first cap:Array Value) (w:World),(Instr.makeFunc fn first cap).run Tryz.prog w=.ok (.func fn first cap) w:=fun _ _ _ _=>rfl
 obtain⟨W0,hW0⟩:∃ W0,W0=w.alloc (.cells #[.int .i64 d] 3):=⟨_,rfl⟩
 have bw0:Below w.heap.size w W0:=by rw[hW0];exact bNw (Below.refl _ w) _
 have box:W0.cell? ⟨w.heap.size,0,none⟩=some (.int .i64 d):=by rw[hW0];exact cell_of_one (heap_alloc_new w _)
 go_enter Tryz.func62,Tryz.ntmps62
 go_wp2_with (first
  | (go_at_call 96;refine kf.mono ?_;rintro e w' ⟨rfl,h⟩;obtain rfl:=h.symm;clear kf)
  | (at_make;rw[←hW0];refine wpList_make_own _ rfl _ (.tmp 36) 34 rfl W0.heap.size 2 i0 (.int .i64 0) 1 Tryz.underlying34 hi hz0 hz1 .i64 .i64 _ N rfl rfl rfl (by rw[hz2];omega) (by unfold maxLen;omega) (Nat.le_refl _) ?_;intro w1 hown hgrow))
 have hbel:Below W0.heap.size W0 w1:=(Below.refl _ _).grown hgrow (Nat.le_refl _) (fun k h=>by cases h)
 have h0':=h0.below bw0
 have h1':=h1.below bw0
 have h2':=h2.below bw0
 have eS:W0.heap.size=w.heap.size+1:=by rw[hW0];simp
 clear hgrow h0 h1 h2 hW0
 obtain⟨B,eB⟩:∃ B,w.heap.size=B:=⟨_,rfl⟩
 rw[eB] at bw0 box eS ⊢
 have EB:Hid (w.heap.size=B):=eB
 have ES:Hid (W0.heap.size=B+1):=eS
 clear eB eS
 go_wp2
 go_loopw [12,13] (fun v i wr=>∃ k:Nat,k≤H∧i=.int .i64 ((k*d:Nat):Int)∧Below W0.heap.size W0 wr∧wr.ownsRow W0.heap.size 2 1 v (k*d) ((allL q K V d n k).map (Value.int .i64))) (fun _ i _=>N-(intOf i).toNat)
 case atStart=>exact⟨0,Nat.zero_le _,by simp,hbel,by have:=hown;rw[ES.out] at this ⊢;simpa [allL] using this⟩
 case round =>
  clear hown hbel
  obtain⟨k,hk,rfl,hbr,ho⟩:=hrel
  by_cases hlt:k<H
  ·have hq:=part_room eH hlt
   have hc:wr.cell? ⟨B,0,none⟩=some (.int .i64 d):=(hbr.cell (World.block_lt_of_cell? W0 _ box)).trans box
   have hr0:=(h0'.below hbr).cut (k*d) d hq
   have kp:=part_call x N c0 (k*d) d B wr d0 hq l0 hm hc
   have kk:=fun (W:World) (hb:Below W0.heap.size W0 W)=>cutEach_call a1 n c1 A C K (k*d) d B W (h1'.below hb) hC d0 (fun r h=>by rw[(hr r h).1];exact hq) ((hb.cell (World.block_lt_of_cell? W0 _ box)).trans box) hb1
   have kv:=fun (W:World) (hb:Below W0.heap.size W0 W)=>cutEach_call a2 n c2 A' C' V (k*d) d B W (h2'.below hb) hC' d0 (fun r h=>by rw[(hr r h).2];exact hq) ((hb.cell (World.block_lt_of_cell? W0 _ box)).trans box) hb1
   have lk:∀ r,r<n→(cutR K (k*d) d r).length=d∧(cutR V (k*d) d r).length=d:=fun r h=>⟨cutR_length _ _ _ _ (by rw[(hr r h).1];exact hq),cutR_length _ _ _ _ (by rw[(hr r h).2];exact hq)⟩
   have es:allL q K V d n (k+1)=allL q K V d n k++headZ ((q.drop (k*d)).take d) (cutR K (k*d) d) (cutR V (k*d) d) d n:=rfl
   have ek:(k+1)*d=k*d+d:=Nat.succ_mul k d
   obtain⟨qs,eq⟩:∃ qs,(q.drop (k*d)).take d=qs:=⟨_,rfl⟩
   rw[eq] at hr0 es
   obtain⟨P,eP⟩:∃ P,k*d=P:=⟨_,rfl⟩
   simp only[eP] at kk kv lk
   rw[eP] at hr0 hq ek ho es kp ⊢
   have kh:=fun (W:World) a b c e f (h0:Reads .i64 W a d qs) (h1:Grid W b n (cutA A P) (fun _=>d) (cutR K P d)) (h2:Grid W e n (cutA A' P) (fun _=>d) (cutR V P d))=>head_yes a d d qs b n c (cutA A P) (fun _=>d) (cutR K P d) e f (cutA A' P) (fun _=>d) (cutR V P d) W h0 h1 h2 d0 hn lk (by omega) (by omega)
   have Es:Hid (allL q K V d n (k+1)=allL q K V d n k++headZ qs (cutR K P d) (cutR V P d) d n):=es
   have Ek:Hid ((k+1)*d=P+d):=ek
   obtain⟨O,eO⟩:∃ O,headZ qs (cutR K P d) (cutR V P d) d n=O:=⟨_,rfl⟩
   rw[eO] at Es
   simp only[eO] at kh
   have hP:P<N:=by omega
   have Box:Hid (W0.cell? ⟨B,0,none⟩=some (.int .i64 d)):=box
   clear eq eP es ek eH hk eO lk hC hC' hr h0' h1' h2' box hc
   go_wp2_with (first
    | (go_at_call 97;refine kp.mono ?_;rintro e w' ⟨rfl,h⟩;obtain rfl:=h.symm;clear kp)
    | (go_at_call_of 99 (Value.slice a1 n c1);refine (kk _ hbr).mono ?_;rintro e W2 ⟨⟨x2,k2,rfl,g2⟩,b2⟩;have hbr2:=bTn hbr b2;clear kk)
    | (go_at_call_of 99 (Value.slice a2 n c2);refine (kv _ hbr2).mono ?_;rintro e W3 ⟨⟨x3,k3,rfl,g3⟩,b3⟩;replace g2:=g2.below b3;have hbr3:=bTn hbr2 b3;have b23:=bTn b2 b3;clear kv b3 b2 hbr2)
    | (go_at_call 98;refine (kh _ _ _ _ _ _ (hr0.below b23) g2 g3).mono ?_;rintro e W4 ⟨⟨p4,q4,rfl,r4,n4⟩,b4⟩;replace b23:=bTn b23 b4;replace ho:=own_below ho b23;replace hbr:=bTn hbr b23;clear kh b4 b23 hbr3 hr0 g2 g3;have hsz:=hbr.size)
    | (at_builtin;refine wpList_copy rfl (.tmp 61) (.tmp 62) 34 rfl W0.heap.size 2 i0 (.int .i64 0) 8 Tryz.underlying34 hi hz0 hz1 hz2 rfl _ P _ rfl ho .i64 p4 d q4 _ rfl r4 n4 (by unfold maxLen;omega) (by omega) hsz ?_;intro v1 W5 ho3 hg3;have R:=And.intro (below_append hbr ho hg3) ho3;have hc5:W5.cell? ⟨B,0,none⟩=some (.int .i64 d):=(R.1.cell (World.block_lt_of_cell? W0 _ Box.out)).trans Box.out;clear ho3 hg3 ho))
   go_roundw
   case rel=>exact⟨k+1,by omega,by rw[Ek.out];congr 1,R.1,by rw[Ek.out,Es.out,List.map_append];exact R.2⟩
   case measure=>simp[intOf];omega
  ·have e:k=H:=by omega
   subst e
   rw[eH] at ho ⊢
   have fin:=own_reads (zs:=allL q K V d n k) ho (by rw[allL_length,eH]) (wf_allL _ _ _ _ _ _) (fun j hj=>copy_at _ _ _ (by rw[allL_length,eH];exact hj))
   obtain⟨a,c,rfl,hr⟩:=fin
   have hn:=own_cap ho
   have fr:Hid (∀ x,a=some x→w.heap.size≤x.block):=fun x hx=>by
    have h1:=(ho.lt x.block (by rw[hx];rfl)).1
    have h2:=EB.out
    have h3:=ES.out
    omega
   have bw:Below w.heap.size w wr:=by rw[EB.out];exact bw0.trans (hbr.mono (by rw[ES.out];omega))
   clear ho
   go_wp2
   go_ret2
   exact⟨⟨_,_,rfl,hr,hn,fr.out⟩,bw⟩
end
section
def sqZ (z:List Int):Nat→Int
 | 0=>0
 | k+1=>addZ (sqZ z k) (clampZ (z.getD k 0)*clampZ (z.getD k 0))
theorem wf_sqZ (z:List Int)(k:Nat):(Lit.int .i64 (sqZ z k)).wf=true:=by
 cases k with
 | zero=>show (Lit.int .i64 0).wf=true;decide
 | succ k=>exact wf_addZ _ _
theorem sq_nat (x:Int)(h:-2147483648≤x∧x≤2147483648):0≤x*x∧x*x≤4611686018427387904:=by
 have e:x*x=((x.natAbs*x.natAbs:Nat):Int):=by rw[←Int.natAbs_mul_self]
 have b:x.natAbs*x.natAbs≤2147483648*2147483648:=Nat.mul_le_mul (by omega) (by omega)
 omega
theorem sq_prod (x:Int):0≤clampZ x*clampZ x∧clampZ x*clampZ x≤4611686018427387904:=by
 have b:=clampZ_bounds x
 exact sq_nat _ ⟨by omega,by omega⟩
theorem sqZ_bounds (z:List Int)(k:Nat):0≤sqZ z k∧sqZ z k≤9223372036854775807:=by
 induction k with
 | zero=>exact⟨Int.le_refl _,show (0:Int)≤9223372036854775807 by decide⟩
 | succ k ih =>
  have p:=sq_prod (z.getD k 0)
  show 0≤addZ (sqZ z k) _∧addZ (sqZ z k) _≤_
  generalize clampZ (z.getD k 0)*clampZ (z.getD k 0)=P at *
  unfold addZ
  repeat' split
  all_goals omega
def meanZ (z:List Int)(n:Nat):Int:=clampZ (shiftZ ((sqZ z n).tdiv n) 16+1)
theorem tdiv_bounds (S:Int)(n:Nat)(h0:0≤S):0≤S.tdiv n∧S.tdiv n≤S:=by
 rw[Int.tdiv_eq_ediv_of_nonneg h0]
 exact⟨Int.ediv_nonneg h0 (Int.natCast_nonneg n),Int.ediv_le_self _ h0⟩
theorem shift16_bounds (x:Int)(h0:0≤x)(h1:x≤9223372036854775807):0≤shiftZ x 16∧shiftZ x 16≤4611686018427387905:=by
 unfold shiftZ
 rw[if_neg (by omega),if_neg (by omega)]
 have:=shN_bounds x (min 16 62) h0 (by omega) (by omega)
 omega
theorem meanSquare_call (a0:Option Addr)(n c0:Nat)(zs:List Int)(w:World)(h0:Reads .i64 w a0 n zs)(hn:0<n) :
  Calls Tryz.prog 102 #[.slice a0 n c0] w fun e w'=>e=.returned (.int .i64 (meanZ zs n))∧w'=w:=by
 have hm:=h0.max
 unfold meanZ
 go_enter Tryz.func102,Tryz.ntmps102
 go_wp2
 go_loopw [3,8] (fun s i wr=>∃ k:Nat,k≤n∧i=.int .i64 k∧s=.int .i64 (sqZ zs k)∧wr=w) (fun _ i _=>n-(intOf i).toNat)
 case atStart=>exact⟨0,Nat.zero_le _,rfl,rfl,rfl⟩
 case round =>
  obtain⟨k,hk,rfl,rfl,hw⟩:=hrel
  subst hw
  by_cases hlt:k<n
  ·obtain⟨x,rfl⟩:=h0.some_ (by omega)
   have cx:=h0.cell x rfl k hlt
   have es:sqZ zs (k+1)=addZ (sqZ zs k) (clampZ (zs.getD k 0)*clampZ (zs.getD k 0)):=rfl
   have ws:=wf_sqZ zs k
   obtain⟨Z,eZ⟩:∃ Z,zs.getD k 0=Z:=⟨_,rfl⟩
   obtain⟨S,eS⟩:∃ S,sqZ zs k=S:=⟨_,rfl⟩
   rw[eZ] at cx es
   rw[eS] at es ws ⊢
   have Es:Hid (sqZ zs (k+1)=addZ S (clampZ Z*clampZ Z)):=es
   clear eZ eS es
   have bp:=sq_prod Z
   have wp:(Lit.int .i64 (clampZ Z*clampZ Z)).wf=true:=WalkArith.wf_i64 ⟨by omega,by omega⟩
   go_wp2_with (first|(go_at_call 114;refine (clamp_call _ _).mono ?_;rintro e w' ⟨rfl,h⟩;obtain rfl:=h.symm)|(go_at_call 113;refine (add_call _ _ ws wp _).mono ?_;rintro e w' ⟨rfl,h⟩;obtain rfl:=h.symm))
   go_roundw
   case rel=>exact⟨k+1,by omega,by go_num,by rw[Es.out],trivial⟩
   case measure=>simp[intOf];omega
  ·have e:k=n:=by omega
   subst e
   have sb:=sqZ_bounds zs k
   obtain⟨S,eS⟩:∃ S,sqZ zs k=S:=⟨_,rfl⟩
   rw[eS] at sb ⊢
   have ES:Hid (sqZ zs k=S):=eS
   clear eS
   have tb:=tdiv_bounds S k sb.1
   obtain⟨t0,t1⟩:=tb
   have t2:S.tdiv k≤9223372036854775807:=by omega
   have wq:(Lit.int .i64 (S.tdiv k)).wf=true:=WalkArith.wf_i64 ⟨by omega,by omega⟩
   have shb:=shift16_bounds (S.tdiv k) t0 t2
   obtain⟨u0,u1⟩:=shb
   have kz:((k:Int)==0)=false:=by simp;omega
   go_wp2_with (first|(go_at_call 115;refine (shift_call _ _ wq (by decide) _).mono ?_;rintro e w' ⟨rfl,h⟩;obtain rfl:=h.symm)|(go_at_call 114;refine (clamp_call _ _).mono ?_;rintro e w' ⟨rfl,h⟩;obtain rfl:=h.symm))
   go_ret
   exact⟨by obtain rfl:=ES.out;rfl,rfl⟩
def weighZ (x y:Int):Int:=clampZ (shiftZ (x*y) 6)
theorem weigh_bounds (x y:Int)(hx:-2147483648≤x∧x≤2147483647)(hy:-128≤y∧y≤127):-274877906944≤x*y∧x*y≤274877906944:=by
 have h:(x*y).natAbs≤2147483648*128:=by
  rw[Int.natAbs_mul]
  exact Nat.mul_le_mul (by omega) (by omega)
 omega
theorem wf_i8 {y:Int}(h:(Lit.int .i8 y).wf=true):-128≤y∧y≤127:=by
 simpa [Lit.wf,IntKind.min,IntKind.max,IntKind.signed,IntKind.bits] using h
theorem weighed_call (x y:Int)(hx:-2147483648≤x∧x≤2147483647)(hy:(Lit.int .i8 y).wf=true)(w:World) :
  Calls Tryz.prog 103 #[.int .i64 x,.int .i8 y] w fun e w'=>e=.returned (.int .i64 (weighZ x y))∧w'=w:=by
 have b8:=wf_i8 hy
 have bp:=weigh_bounds x y hx b8
 obtain⟨p0,p1⟩:=bp
 obtain⟨b0,b1⟩:=b8
 obtain⟨x0,x1⟩:=hx
 have wp:(Lit.int .i64 (x*y)).wf=true:=WalkArith.wf_i64 ⟨by omega,by omega⟩
 unfold weighZ
 go_enter Tryz.func103,Tryz.ntmps103
 go_wp2_with (first|(go_at_call 115;refine (shift_call _ _ wp (by decide) _).mono ?_;rintro e w' ⟨rfl,h⟩;obtain rfl:=h.symm)|(go_at_call 114;refine (clamp_call _ _).mono ?_;rintro e w' ⟨rfl,h⟩;obtain rfl:=h.symm))
 go_ret
 exact⟨rfl,rfl⟩
def rmsF (xs ws:List Int)(r:Int)(j:Nat):Int:=weighZ (mulZ (xs.getD j 0) r) (ws.getD j 0)
def rmsZ (xs ws:List Int)(n:Nat):List Int:=(List.range n).map (rmsF xs ws (rsqrtZ (meanZ xs n)))
theorem rms_same (a0:Option Addr)(n c0:Nat)(xs:List Int)(a1:Option Addr)(c1:Nat)(ys:List Int)(w:World)(h0:Reads .i64 w a0 n xs)(h1:Reads .i8 w a1 n ys)(hn:0<n)(hb:n*8≤281474976710656) :
  Calls Tryz.prog 64 #[.slice a0 n c0,.slice a1 n c1] w fun e w'=>(∃ a c,e=.returned (.tuple #[.slice a n c,.int .i64 0])∧Reads .i64 w' a n (rmsZ xs ys n)∧∀ x,a=some x→w.heap.size≤x.block)∧Below w.heap.size w w':=by
 obtain⟨i0,hi,hz0,hz1,hz2⟩:=info_parts info2
 have hm:=h0.max
 have rb:=rsqrtZ_bounds (meanZ xs n)
 have kms:=meanSquare_call a0 n c0 xs w h0 hn
 have krs:=fun W=>rsqrt_call (meanZ xs n) W
 unfold rmsZ
 obtain⟨r,er⟩:∃ r,rsqrtZ (meanZ xs n)=r:=⟨_,rfl⟩
 obtain⟨M,eM⟩:∃ M,meanZ xs n=M:=⟨_,rfl⟩
 rw[er] at rb ⊢
 rw[er] at krs
 rw[eM] at kms krs
 clear er eM
 have wr':(Lit.int .i64 r).wf=true:=WalkArith.wf_i64 ⟨by omega,by omega⟩
 have nz:((n:Int)==0)=false:=by simp;omega
 go_enter Tryz.func64,Tryz.ntmps64
 go_wp2_with (first
  | (go_at_call 102;refine kms.mono ?_;rintro e w' ⟨rfl,h⟩;obtain rfl:=h.symm)
  | (go_at_call 101;refine (krs _).mono ?_;rintro e w' ⟨rfl,h⟩;obtain rfl:=h.symm)
  | (at_make;refine wpList_make_full _ rfl (.tmp 23) (.tmp 23) 34 rfl w.heap.size 2 i0 (.int .i64 0) 1 Tryz.underlying34 hi hz0 hz1 .i64 .i64 _ _ n rfl rfl rfl rfl (by rw[hz2];omega) (by unfold maxLen;omega) (Nat.le_refl _) ?_;intro w1 hown hgrow))
 have hbel:Below w.heap.size w w1:=(Below.refl _ _).grown hgrow (Nat.le_refl _) (fun k h=>by cases h)
 go_wp2
 go_loopw [27] (fun i wr=>∃ k:Nat,k≤n∧i=.int .i64 k∧Below w.heap.size w wr∧∃ cs,wr.ownsRow w.heap.size 2 1 (.slice (some ⟨w.heap.size,0,none⟩) n n) n cs∧∀ j,j<k→cs[j]? = some (.int .i64 (rmsF xs ys r j))) (fun i _=>n-(intOf i).toNat)
 case atStart=>exact⟨0,Nat.zero_le _,rfl,hbel,_,hown,fun j hj=>by omega⟩
 case round =>
  obtain⟨k,hk,rfl,hbr,cs,ho,hcs⟩:=hrel
  by_cases hlt:k<n
  ·have hr:=h0.below hbr
   have hq:=h1.below hbr
   obtain⟨x,rfl⟩:=h0.some_ (by omega)
   obtain⟨y,rfl⟩:=h1.some_ (by omega)
   have cx:=hr.cell x rfl k hlt
   have cy:=hq.cell y rfl k hlt
   have wx:=h0.wf k
   have wy:=h1.wf k
   have hlen:=own_length ho
   have cell:wr.cell? ⟨w.heap.size,k,none⟩=cs[k]?:=ho.cellAt k (by omega)
   obtain⟨u,hu⟩:∃ u,cs[k]? = some u:=⟨cs[k],by simp[hlen,hlt]⟩
   rw[hu] at cell
   have froz:=ho.frozenAt k
   have st:=fun v=>ho.stored k v
   have step:=fun v (h:v=Value.int .i64 (rmsF xs ys r k))=>set_step (F:=fun j=>Value.int .i64 (rmsF xs ys r j)) hlen hlt h hcs
   obtain⟨X,eX⟩:∃ X,xs.getD k 0=X:=⟨_,rfl⟩
   obtain⟨Y,eY⟩:∃ Y,ys.getD k 0=Y:=⟨_,rfl⟩
   have eP:rmsF xs ys r k=weighZ (mulZ X r) Y:=by unfold rmsF;rw[eX,eY]
   rw[eX] at cx wx
   rw[eY] at cy wy
   rw[eP] at step
   have R:Hid (Below w.heap.size w (wr.setCell ⟨w.heap.size,k,none⟩ (.int .i64 (weighZ (mulZ X r) Y)))∧∃ cs',(wr.setCell ⟨w.heap.size,k,none⟩ (.int .i64 (weighZ (mulZ X r) Y))).ownsRow w.heap.size 2 1 (.slice (some ⟨w.heap.size,0,none⟩) n n) n cs'∧∀ j,j<k+1→cs'[j]? = some (.int .i64 (rmsF xs ys r j))) :=
    ⟨hbr.setCell (Nat.le_refl _) _,_,(st _).1,step _ rfl⟩
   have mb:=mulZ_bounds X r
   clear eX eY eP step st hcs ho hu hlen hr hbr hq hown hgrow hbel h0 h1 hi hz0 hz1 hz2 kms krs
   go_wp2
   go_region_with (first
    | (go_at_call 104;refine (mul_call _ _ wx wr' _).mono ?_;rintro e w' ⟨rfl,rfl⟩)
    | (go_at_call 103;refine (weighed_call _ _ mb wy _).mono ?_;rintro e w' ⟨rfl,rfl⟩))
   all_goals
    go_wp2
    go_roundw
    case rel=>exact⟨k+1,by omega,by go_num,R.out.1.drew,R.out.2⟩
    case measure=>simp[intOf];omega
  ·have e:k=n:=by omega
   subst e
   have fin:=own_reads_at (zs:=(List.range k).map (rmsF xs ys r)) ho (by simp) (fun z hz=>by obtain⟨y,_,rfl⟩:=List.mem_map.1 hz;exact wf_clampZ _) (fun j hj=>by rw[hcs j hj];simp[hj])
   clear hcs ho
   go_wp2
   go_ret2
   exact⟨⟨_,_,rfl,fin,fun x hx=>Nat.le_of_eq (congrArg Addr.block (Option.some.inj hx))⟩,hbr⟩
end
section
theorem mat_yes (a0:Option Addr)(n c0:Nat)(ws:List Int)(r:Int)(a2:Option Addr)(d c2:Nat)(xs:List Int)(w:World)
  (h0:Reads .i8 w a0 n ws) (hc:n≤c0) (h2:Reads .i64 w a2 d xs) (hf:fitB n r d=true) (hb:n*8≤140737488355328) :
  Calls Tryz.prog 49 #[.slice a0 n c0,.int .i64 r,.slice a2 d c2] w fun e w'=>(∃ cs,e=.returned (.tuple #[.slice (some ⟨w.heap.size,0,none⟩) (n/d) (n/d),.int .i64 0])∧Reads .i64 w' (some ⟨w.heap.size,0,none⟩) (n/d) (matL ws xs) ∧
   w'.ownsRow w.heap.size 2 1 (.slice (some ⟨w.heap.size,0,none⟩) (n/d) (n/d)) (n/d) cs∧∀ j,j<n/d→cs[j]? = some (.int .i64 (rowZ ws d xs j)))∧Below w.heap.size w w':=by
 obtain⟨hd,hn,hr⟩:=fitB_yes hf
 have hle:=Nat.div_le_self n d
 rw[hr]
 refine (mat_fits a0 n c0 ws (n/d) a2 d c2 xs w h0 hc h2 hd hn (by omega)).mono ?_
 rintro e w' ⟨⟨a,c,cs,he,hR,rfl,rfl,ho,hcs⟩,hB⟩
 refine⟨⟨cs,he,?_,ho,hcs⟩,hB⟩
 unfold matL
 rw[h0.len,h2.len]
 exact hR
end
section
theorem wf_siluZ (y:Int):(Lit.int .i64 (siluZ y)).wf=true:=wf_clampZ _
theorem one_yes (a0 : Option Addr) (n0 c0 : Nat) (up : List Int) (a1 : Option Addr) (n1 c1 : Nat) (down : List Int) (h : Int) (a3 : Option Addr) (n3 c3 : Nat) (xs : List Int) (w : World) (h0 : Reads .i8 w a0 n0 up) (l0 : n0 ≤ c0) (h1 : Reads .i8 w a1 n1 down) (l1 : n1 ≤ c1) (h3 : Reads .i64 w a3 n3 xs) (wh : (Lit.int .i64 h).wf = true) (b0 : n0 * 8 ≤ 140737488355328) (b1 : n1 * 8 ≤ 140737488355328) (hf : oneB up down h xs = true) :
    Calls Tryz.prog 138 #[.slice a0 n0 c0, .slice a1 n1 c1, .int .i64 h, .slice a3 n3 c3] w fun e w' => (∃ a, e = .returned (.slice (some a) n3 n3) ∧ Reads .i64 w' (some a) n3 (oneL up down xs) ∧ w.heap.size ≤ a.block ∧ a.block < w'.heap.size) ∧ Below w.heap.size w w' := by
  obtain ⟨f1, f2⟩ := Bool.and_eq_true _ _ ▸ (show (fitB up.length h xs.length && fitB down.length (xs.length : Int) (hidL up xs).length) = true from hf)
  have el := oneL_length hf
  rw [h3.len] at el
  rw [h0.len, h3.len] at f1
  clear hf
  have ku := mat_yes a0 n0 c0 up h a3 n3 c3 xs w h0 l0 h3 f1 b0
  have hle := Nat.div_le_self n0 n3
  have hm3 := h3.max
  have hm1 := h1.max
  obtain ⟨R, eR⟩ : ∃ R, n0 / n3 = R := ⟨_, rfl⟩
  have eh : (hidL up xs).length = R := by rw [hidL_length, h0.len, h3.len, eR]
  rw [eR] at ku hle
  rw [h1.len, h3.len, eh] at f2
  have ha : ∀ j, j < R → (hidL up xs).getD j 0 = siluZ (rowZ up n3 xs j) := fun j hj => by
    rw [hidL_at _ _ _ (by rw [h0.len, h3.len, eR]; exact hj), h3.len]
  have Eh := hdn (And.intro eh ha)
  clear eR f1 eh ha
  have hRm : R ≤ 9223372036854775807 := by omega
  go_enter Tryz.func138, Tryz.ntmps138
  go_wp2_with (first
    | (go_at_call 49; refine ku.mono ?_; rintro e w1 ⟨⟨cs0, rfl, hr1, ho1, hc1⟩, hb1⟩)
    | (go_at_call 151; refine (must_yes _ _ _ _).mono ?_; rintro e w' ⟨rfl, hq⟩; obtain rfl := hq.symm))
  clear ku hr1
  go_loopw [21] (fun i wr => ∃ k : Nat, k ≤ R ∧ i = .int .i64 k ∧ Below w.heap.size w wr ∧ ∃ cs, wr.ownsRow w.heap.size 2 1 (.slice (some ⟨w.heap.size, 0, none⟩) R R) R cs ∧ (∀ j, j < k → cs[j]? = some (.int .i64 (siluZ (rowZ up n3 xs j)))) ∧ ∀ j, k ≤ j → j < R → cs[j]? = some (.int .i64 (rowZ up n3 xs j))) (fun i _ => R - (intOf i).toNat)
  case atStart => exact ⟨0, Nat.zero_le _, rfl, hb1, _, ho1, fun j hj => by omega, fun j _ hj => hc1 j hj⟩
  case round =>
    clear hc1 ho1 hb1
    obtain ⟨k, hk, rfl, hbr, cs, ho, g1, g2⟩ := hrel
    by_cases hlt : k < R
    · have hlen := own_length ho
      have cell : wr.cell? ⟨w.heap.size, k, none⟩ = some (.int .i64 (rowZ up n3 xs k)) := (ho.cellAt k (by omega)).trans (g2 k (Nat.le_refl _) hlt)
      have wZ : (Lit.int .i64 (rowZ up n3 xs k)).wf = true := wf_clampZ _
      have ks := fun W => silu_call (rowZ up n3 xs k) wZ W
      have step := fun (W : World) (hs : W.ownsRow w.heap.size 2 1 (.slice (some ⟨w.heap.size, 0, none⟩) R R) R cs) => And.intro (hs.stored k (.int .i64 (siluZ (rowZ up n3 xs k)))).1 (And.intro (set_step (F := fun j => Value.int .i64 (siluZ (rowZ up n3 xs j))) hlen hlt rfl g1) (fun i (h : k + 1 ≤ i) (hi : i < R) => show (cs.set k (Value.int .i64 (siluZ (rowZ up n3 xs k))))[i]? = some (Value.int .i64 (rowZ up n3 xs i)) from by rw [List.getElem?_set_ne (by omega)]; exact g2 i (by omega) hi))
      have hu : cs[k]? = some (.int .i64 (rowZ up n3 xs k)) := g2 k (Nat.le_refl _) hlt
      obtain ⟨Z, eZ⟩ : ∃ Z, rowZ up n3 xs k = Z := ⟨_, rfl⟩
      rw [eZ] at cell ks step hu
      obtain ⟨E, eE⟩ : ∃ E, siluZ Z = E := ⟨_, rfl⟩
      rw [eE] at ks step
      clear eZ eE wZ g1 g2
      go_wp2_with (go_at_call 152; refine (ks _).mono ?_; rintro e W2 ⟨rfl, hb2⟩
                   have ho2 := own_below ho hb2
                   have cell2 : W2.cell? ⟨w.heap.size, k, none⟩ = some (.int .i64 Z) := (ho2.cellAt k (by omega)).trans hu
                   have froz2 := ho2.frozenAt k
                   have R0 : Below w.heap.size w (W2.setCell ⟨w.heap.size, k, none⟩ (.int .i64 E)) := (bTn hbr hb2).setCell (Nat.le_refl _) _
                   have R' := hdn (And.intro R0 (step W2 ho2))
                   clear R0
                   clear ho2 hb2)
      go_roundw
      case rel => exact ⟨k + 1, by omega, by go_num, R'.out.1, _, R'.out.2.1, R'.out.2.2.1, R'.out.2.2.2⟩
      case measure => simp [intOf]; omega
    · have e : k = R := by omega
      subst e
      have hr1 : Reads .i64 wr (some ⟨w.heap.size, 0, none⟩) k (hidL up xs) := own_reads_at ho Eh.out.1 (fun z hz => by
        obtain ⟨y, _, rfl⟩ := List.mem_map.1 hz
        exact wf_siluZ y) (fun j hj => by rw [g1 j hj, Eh.out.2 j hj])
      clear g1 g2 ho
      have kd := mat_yes a1 n1 c1 down (n3 : Int) (some ⟨w.heap.size, 0, none⟩) k k (hidL up xs) wr (h1.below hbr) l1 hr1 f2 b1
      have en : n1 / k = n3 := by have := (fitB_yes f2).2.2; omega
      rw [en] at kd
      have hsz := hbr.size
      clear f2 en
      go_wp2_with (first
        | (go_at_call 49; refine kd.mono ?_; rintro e w2 ⟨⟨cs2, rfl, hr2, ho2, -⟩, hb2⟩)
        | (go_at_call 151; refine (must_yes _ _ _ _).mono ?_; rintro e w' ⟨rfl, hq⟩; obtain rfl := hq.symm))
      go_ret
      exact ⟨⟨_, rfl, hr2, hsz, (ho2.lt _ rfl).2⟩, bTn hbr hb2⟩
end
section
theorem mix_one_yes (a0:Option Addr)(n0 c0:Nat)(ro:List Int)(a1:Option Addr)(n c1:Nat)(A1:Nat→Option Addr)(C1:Nat→Nat)(U:Nat→List Int)(a2:Option Addr)(m c2:Nat)(A2:Nat→Option Addr)(C2:Nat→Nat)(D:Nat→List Int)(h k:Int)(a5:Option Addr)(n5 c5:Nat)(xs:List Int)(w:World)(h0:Reads .i8 w a0 n0 ro)(l0:n0≤c0)(g1:Nets w a1 n A1 C1 U)(g2:Nets w a2 m A2 C2 D)(h5:Reads .i64 w a5 n5 xs)(wh:(Lit.int .i64 h).wf=true)(wk:(Lit.int .i64 k).wf=true)(b0:n0*8≤140737488355328)(b1:n*24≤140737488351232)(b5:n5*8≤140737488355328)(hn:n=1)(hm:m=1)(hf:oneB (U 0) (D 0) h xs=true) :
  Calls Tryz.prog 123 #[.slice a0 n0 c0,.slice a1 n c1,.slice a2 m c2,.int .i64 h,.int .i64 k,.slice a5 n5 c5] w fun e w'=>(∃ a,e=.returned (.slice (some a) n5 n5)∧Reads .i64 w' (some a) n5 (oneL (U 0) (D 0) xs))∧Below w.heap.size w w':=by
 subst hn
 subst hm
 obtain⟨x,rfl⟩:=g1.grid.some_ (by omega)
 obtain⟨y,rfl⟩:=g2.grid.some_ (by omega)
 have cx:=fun (W:World) (hb:Below w.heap.size w W)=>(g1.grid.below hb).cell x rfl 0 (by omega)
 have cy:=fun (W:World) (hb:Below w.heap.size w W)=>(g2.grid.below hb).cell y rfl 0 (by omega)
 simp only[Addr.add_zero'] at cx cy
 have ko:=fun (W:World) (hb:Below w.heap.size w W)=>one_yes (A1 0) (U 0).length (C1 0) (U 0) (A2 0) (D 0).length (C2 0) (D 0) h a5 n5 c5 xs W ((g1.grid.row 0 (by omega)).below hb) (g1.cap 0 (by omega)) ((g2.grid.row 0 (by omega)).below hb) (g2.cap 0 (by omega)) (h5.below hb) wh (g1.bnd 0 (by omega)) (g2.bnd 0 (by omega)) hf
 go_enter Tryz.func123,Tryz.ntmps123
 go_wp2_with (first
  | (go_at_call 137;refine (need_yes _ _).mono ?_;rintro e w' ⟨rfl,hq⟩;obtain rfl:=hq.symm))
 refine mo_region x y 1 c1 c2 (U 0).length (C1 0) (D 0).length (C2 0) n5 c5 (A1 0) (A2 0) a5 h (oneL (U 0) (D 0) xs) (fun W=>Below w.heap.size w W) (by kernel_rfl) rfl ⟨_,rfl,rfl,rfl,rfl,by kernel_rfl⟩ ⟨_,rfl,rfl,rfl,rfl,by kernel_rfl⟩ ⟨_,rfl,rfl,rfl,rfl,by kernel_rfl⟩ ⟨_,rfl,rfl,rfl,rfl,by kernel_rfl⟩ ⟨_,rfl,rfl,rfl,rfl,by kernel_rfl⟩ ⟨_,rfl,rfl,rfl,rfl,by kernel_rfl⟩ ⟨_,rfl,rfl,rfl,rfl,by kernel_rfl⟩ ⟨_,rfl,rfl,rfl,rfl,by kernel_rfl⟩ ⟨_,rfl,rfl,rfl,rfl,by kernel_rfl⟩ ⟨_,rfl,rfl,rfl,rfl,by kernel_rfl⟩ (Below.refl _ _).drew (run_index23z _ _ _ (by omega)) (fun W hb=>run_load24 (cx W hb)) (run_index23z _ _ _ (by omega)) (fun W hb=>run_load24 (cy W hb)) (fun W hb=>(ko W hb).mono fun e w' ⟨⟨a,q1,q2,q3,q4⟩,q5⟩=>⟨a,q1,q2,q5,bTn hb q5⟩) rfl rfl rfl rfl (Nat.le_of_ble_eq_true rfl) ?_
 intro a W9 hs hd hkp hS9 hval
 obtain⟨b9,e12,f12⟩:=hval 9 12 (by decide) rfl
 have ep:=fPu [34,35,36,37,38,39,40,41,42,12] hs hd (fun s h=>hkp s (fun i hi e=>h (by
  rcases (show i=0∨i=1∨i=2∨i=3∨i=4∨i=5∨i=6∨i=7∨i=8∨i=9 by omega) with rfl|rfl|rfl|rfl|rfl|rfl|rfl|rfl|rfl|rfl<;>(simp only[moD,Option.some.injEq] at e;subst e;simp))))
 simp only[List.foldl] at ep
 rw[e12] at ep
 have H9:=hdn hS9
 clear hs hd hkp hval hS9 e12
 generalize a.tmps.getD 34 undef=g34,a.tmps.getD 35 undef=g35,a.tmps.getD 36 undef=g36,a.tmps.getD 37 undef=g37,a.tmps.getD 38 undef=g38,a.tmps.getD 39 undef=g39,a.tmps.getD 40 undef=g40,a.tmps.getD 41 undef=g41,a.tmps.getD 42 undef=g42 at ep
 simp only[Act.put,List.setIfInBounds_toArray,List.set_cons_succ,List.set_cons_zero] at ep
 subst ep
 go_wp2
 go_ret
 exact⟨⟨_,rfl,f12⟩,H9.out⟩
end
section
theorem blend_call (a0:Option Addr)(K c0:Nat)(zs:List Int)(a1:Option Addr)(c1:Nat)(A:Nat→Option Addr)(C:Nat→Nat)(R:Nat→List Int)(i:Nat)(w:World)
  (h0:Reads .i64 w a0 K zs) (h1:Grid w a1 K A C R) (hi:∀ j,j<K→i<(R j).length) (zb:∀ j,-2147483648≤zs.getD j 0∧zs.getD j 0≤2147483647) (rb:∀ j,j<K→-2147483648≤(R j).getD i 0∧(R j).getD i 0≤2147483647) :
  Calls Tryz.prog 140 #[.slice a0 K c0,.slice a1 K c1,.int .i64 i] w fun e w'=>e=.returned (.int .i64 (blendZ (fun j=>zs.getD j 0) R K i))∧w'=w:=by
 have hm:=h0.max
 go_enter Tryz.func140,Tryz.ntmps140
 go_wp2
 go_loopw [7,12] (fun s j wr=>∃ k:Nat,k≤K∧j=.int .i64 k∧s=.int .i64 (blendTo (fun j=>zs.getD j 0) R i k)∧wr=w) (fun _ j _=>K-(intOf j).toNat)
 case atStart=>exact⟨0,Nat.zero_le _,rfl,rfl,rfl⟩
 case round =>
  obtain⟨k,hk,rfl,rfl,hw⟩:=hrel
  subst hw
  by_cases hlt:k<K
  ·obtain⟨x,rfl⟩:=h0.some_ (by omega)
   obtain⟨y,rfl⟩:=h1.some_ (by omega)
   have cx:=h0.cell x rfl k hlt
   have cy:=h1.cell y rfl k hlt
   have hik:=hi k hlt
   have rk:=h1.row k hlt
   obtain⟨z,ez⟩:=rk.some_ (by omega)
   have cz:=rk.cell z ez i hik
   rw[ez] at cy
   have b1:=zb k
   have b2:=rb k hlt
   have es:blendTo (fun j=>zs.getD j 0) R i (k+1)=addZ (blendTo (fun j=>zs.getD j 0) R i k) (zs.getD k 0*(R k).getD i 0):=rfl
   have wS:=wf_blendTo (fun j=>zs.getD j 0) R i k
   have pb:=prodM_bounds _ _ b1 b2
   obtain⟨Z,eZ⟩:∃ Z,zs.getD k 0=Z:=⟨_,rfl⟩
   obtain⟨Y,eY⟩:∃ Y,(R k).getD i 0=Y:=⟨_,rfl⟩
   obtain⟨T,eT⟩:∃ T,blendTo (fun j=>zs.getD j 0) R i k=T:=⟨_,rfl⟩
   obtain⟨n,en⟩:∃ n,(R k).length=n:=⟨_,rfl⟩
   rw[eZ,eY] at pb
   rw[eZ] at cx es
   rw[eY] at cz es
   rw[eT] at es wS ⊢
   rw[en] at cy hik
   obtain⟨Pz,eP⟩:∃ Pz,Z*Y=Pz:=⟨_,rfl⟩
   rw[eP] at pb es
   obtain⟨p0,p1⟩:=pb
   have wP:(Lit.int .i64 Pz).wf=true:=WalkArith.wf_i64 ⟨by omega,by omega⟩
   have Es:Hid (blendTo (fun j=>zs.getD j 0) R i (k+1)=addZ T Pz):=es
   clear es eZ eY eT en b1 b2 rk ez
   have ka:=fun W=>add_call T Pz wS wP W
   go_wp2_with (go_at_call 113;refine (ka _).mono ?_;rintro e w' ⟨rfl,hq⟩;obtain rfl:=hq.symm)
   go_roundw
   case rel=>exact⟨k+1,by omega,by go_num,by rw[Es.out],trivial⟩
   case measure=>simp[intOf];omega
  ·have e:k=K:=by omega
   subst e
   have wS:=wf_blendTo (fun j=>zs.getD j 0) R i k
   obtain⟨T,eT⟩:∃ T,blendTo (fun j=>zs.getD j 0) R i k=T:=⟨_,rfl⟩
   have Et:Hid (blendTo (fun j=>zs.getD j 0) R i k=T):=eT
   rw[eT] at wS ⊢
   clear eT
   have ks:=fun W=>shift_call T 16 wS (by decide) W
   go_wp2_with (first
    | (go_at_call 115;refine (ks _).mono ?_;rintro e w' ⟨rfl,hq⟩;obtain rfl:=hq.symm)
    | (go_at_call 114;refine (clamp_call _ _).mono ?_;rintro e w' ⟨rfl,hq⟩;obtain rfl:=hq.symm))
   go_ret
   exact⟨by unfold blendZ;rw[Et.out];rfl,rfl⟩
end
end Go.Proofs.YthliomlmhfjhnaaGreat

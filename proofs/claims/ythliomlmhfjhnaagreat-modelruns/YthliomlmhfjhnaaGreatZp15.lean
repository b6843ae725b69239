/- Texts put together. -/
import Derived.Test.YthliomlmhfjhnaaGreatZp11
import Derived.Test.YthliomlmhfjhnaaGreatZp10
namespace Go.Proofs.YthliomlmhfjhnaaGreat
set_option maxRecDepth 20000
set_option maxHeartbeats 16000000
open Go.ChangeShapes Go.WideShapes Go.ChangeAt Go.RowKit
set_option linter.unusedVariables false
set_option linter.unusedSimpArgs false
def fitB (n:Nat)(r:Int)(d:Nat):Bool:=decide (0<d∧n%d=0∧((n/d:Nat):Int)=r)
def matL (ws xs:List Int):List Int:=(List.range (ws.length/xs.length)).map (rowZ ws xs.length xs)
def hidL (up xs:List Int):List Int:=(matL up xs).map siluZ
def oneB (up down:List Int)(h:Int)(xs:List Int):Bool:=fitB up.length h xs.length && fitB down.length (xs.length:Int) (hidL up xs).length
def oneL (up down xs:List Int):List Int:=matL down (hidL up xs)
theorem Qa7 (ws xs:List Int):(matL ws xs).length=ws.length/xs.length:=by simp[matL]
theorem Qb8 (up xs:List Int):(hidL up xs).length=up.length/xs.length:=by simp[hidL,matL]
theorem Qbn {n d:Nat}{r:Int}(h:fitB n r d=true):0<d∧n=n/d*d∧r=((n/d:Nat):Int):=by
 obtain⟨h1,h2,h3⟩:=of_decide_eq_true h
 have:=Nat.div_add_mod n d
 rw[h2,Nat.mul_comm] at this
 exact⟨h1,by omega,h3.symm⟩
theorem Qb5 {up down xs:List Int}{h:Int}(hb:oneB up down h xs=true):(oneL up down xs).length=xs.length:=by
 unfold oneB at hb
 rw[Bool.and_eq_true] at hb
 have:=(Qbn hb.2).2.2
 unfold oneL
 rw[Qa7]
 omega
theorem Qij (ws xs:List Int)(j:Nat)(h:j<ws.length/xs.length):(matL ws xs).getD j 0=rowZ ws xs.length xs j:=by
 simp[matL,List.getD,h]
theorem Qil (up xs:List Int)(j:Nat)(h:j<up.length/xs.length):(hidL up xs).getD j 0=siluZ (rowZ up xs.length xs j):=by
 simp[hidL,matL,List.getD,h]
theorem Qb7 (ws xs:List Int)(j:Nat):-2147483648≤(matL ws xs).getD j 0∧(matL ws xs).getD j 0≤2147483647:=by
 by_cases h:j<ws.length/xs.length
 ·rw[Qij _ _ _ h]
  exact cZb _
 ·have e:(matL ws xs).getD j 0=0:=by simp[matL,List.getD,h]
  rw[e]
  omega
def plc (router xs:List Int)(j:Nat):Nat:=(QaX (matL router xs)).getD j 0
def QbA (router:List Int)(K:Nat)(xs:List Int):List Int:=(List.range K).map fun j=>(matL router xs).getD (plc router xs j) 0
def QeB (router:List Int)(k:Int)(xs:List Int):List Int:=Qcf (matL router xs) k
def QcE (router:List Int)(k:Int)(xs:List Int):List Int:=QbE (QbA router k.toNat xs) k.toNat
def Qgu (router:List Int)(E k:Int)(xs:List Int):Int:=if k<1∨E<k then 20 else if fitB router.length E xs.length then 0 else 21
def Qbh (router:List Int)(E k:Int)(xs:List Int):Bool:=decide (1≤k) && decide (k≤E) && fitB router.length E xs.length
theorem QkK {router xs:List Int}{E k:Int}(h:Qbh router E k xs=false):Qgu router E k xs=20∨Qgu router E k xs=21:=by
 unfold Qgu
 by_cases h1:k<1∨E<k
 ·rw[if_pos h1];exact .inl rfl
 ·rw[if_neg h1]
  cases hf:fitB router.length E xs.length with
  | true =>
   exfalso
   unfold Qbh at h
   rw[hf,decide_eq_true (by omega:1≤k),decide_eq_true (by omega:k≤E)] at h
   cases h
  | false=>exact .inr rfl
theorem Qgt {router xs:List Int}{E k:Int}(h:Qbh router E k xs=false):¬Qgu router E k xs=0:=by
 rcases QkK h with e|e<;>rw[e]<;>decide
theorem QgT {router xs:List Int}{E k:Int}(h:Qbh router E k xs=true){j:Nat}(hj:j<k.toNat):((plc router xs j:Nat):Int)<E:=by
 unfold Qbh at h
 simp only[Bool.and_eq_true,decide_eq_true_eq] at h
 have hE:=(Qbn h.2).2.2
 have hl:=Qa7 router xs
 have:=(Qbc (matL router xs)).lt (m:=j) (by omega)
 unfold plc
 omega
theorem Qc5 {router xs:List Int}{E k:Int}(h:Qbh router E k xs=true){j:Nat}(hj:j<k.toNat):(QeB router k xs).getD j 0=(plc router xs j:Nat):=by
 unfold Qbh at h
 simp only[Bool.and_eq_true,decide_eq_true_eq] at h
 have hE:=(Qbn h.2).2.2
 have hl:=Qa7 router xs
 exact Qkh _ _ _ (by omega)
theorem QfF (z:List Int)(t S:Int)(j:Nat):-2147483648≤QaW z t S j∧QaW z t S j≤2147483647:=by
 unfold QaW divZ
 split
 ·unfold Qb6
  repeat' split
  all_goals omega
 ·exact cZb _
theorem Qc4 (router:List Int)(k:Int)(xs:List Int)(j:Nat):-2147483648≤(QcE router k xs).getD j 0∧(QcE router k xs).getD j 0≤2147483647:=by
 unfold QcE QbE
 by_cases h:j<k.toNat
 ·have e:∀ f:Nat→Int,((List.range k.toNat).map f).getD j 0=f j:=fun f=>by simp[List.getD,h]
  rw[e]
  exact QfF _ _ _ _
 ·have e:∀ f:Nat→Int,((List.range k.toNat).map f).getD j 0=0:=fun f=>by simp[List.getD,h]
  rw[e]
  omega
def Qay (sh:Nat→Int)(ro:Nat→List Int)(i:Nat):Nat→Int
 | 0=>0
 | k+1=>addZ (Qay sh ro i k) (sh k*(ro k).getD i 0)
def Qcd (sh:Nat→Int)(ro:Nat→List Int)(K:Nat)(i:Nat):Int:=cZ (Qac (Qay sh ro i K) 16)
theorem Qcr (sh:Nat→Int)(ro:Nat→List Int)(i k:Nat):(Lit.int .i64 (Qay sh ro i k)).wf=true:=by
 cases k with
 | zero=>show (Lit.int .i64 0).wf=true;decide
 | succ k=>exact Qeg _ _
def QaR (router:List Int)(U D:Nat→List Int)(xs:List Int)(j:Nat):List Int:=oneL (U (plc router xs j)) (D (plc router xs j)) xs
def QhR (router:List Int)(U D:Nat→List Int)(h:Int)(K:Nat)(xs:List Int):Bool:=(List.range K).all fun j=>oneB (U (plc router xs j)) (D (plc router xs j)) h xs
def sh (router:List Int)(k:Int)(xs:List Int)(j:Nat):Int:=(QcE router k xs).getD j 0
def sumL (router:List Int)(U D:Nat→List Int)(k:Int)(xs:List Int):List Int:=(List.range xs.length).map (Qcd (sh router k xs) (QaR router U D xs) k.toNat)
def mixE (router:List Int)(n m:Nat)(U D:Nat→List Int)(h k:Int)(xs:List Int):Int :=
 if n=0∨n≠m then 21 else if n=1 then (if oneB (U 0) (D 0) h xs then 0 else 21)
 else if Qbh router n k xs=false then Qgu router n k xs else if QhR router U D h k.toNat xs then 0 else 21
def mixL (router:List Int)(n:Nat)(U D:Nat→List Int)(k:Int)(xs:List Int):List Int:=if n=1 then oneL (U 0) (D 0) xs else sumL router U D k xs
theorem Qgw {router:List Int}{U D:Nat→List Int}{h:Int}{K:Nat}{xs:List Int}(hb:QhR router U D h K xs=true){j:Nat}(hj:j<K):oneB (U (plc router xs j)) (D (plc router xs j)) h xs=true :=
 List.all_eq_true.1 hb j (List.mem_range.2 hj)
theorem Qen (router:List Int)(U D:Nat→List Int)(k:Int)(xs:List Int):(sumL router U D k xs).length=xs.length:=by simp[sumL]
theorem Qkj (router:List Int)(U D:Nat→List Int)(k:Int)(xs:List Int)(i:Nat)(h:i<xs.length):(sumL router U D k xs).getD i 0=Qcd (sh router k xs) (QaR router U D xs) k.toNat i:=by simp[sumL,List.getD,h]
theorem Qj4 (router:List Int)(U D:Nat→List Int)(k:Int)(xs:List Int):∀ z∈sumL router U D k xs,(Lit.int .i64 z).wf=true:=by
 intro z hz
 obtain⟨y,_,rfl⟩:=List.mem_map.1 hz
 exact wCz _
def scoreF (q:List Int)(K:Nat→List Int)(d:Nat)(i:Nat):Int:=mulZ (Qce q (K i) 16) (Qbe ((d:Int)*65536))
def scoresZ (q:List Int)(K:Nat→List Int)(d n:Nat):List Int:=(List.range n).map (scoreF q K d)
def Qan (s:List Int)(V:Nat→List Int)(j:Nat):Nat→Int
 | 0=>0
 | k+1=>addZ (Qan s V j k) (s.getD k 0*cZ ((V k).getD j 0))
def QaF (s:List Int)(V:Nat→List Int)(n j:Nat):Int:=cZ (Qac (Qan s V j n) 16)
def QcA (q:List Int)(K V:Nat→List Int)(d n:Nat):List Int:=(List.range d).map (QaF (QbE (scoresZ q K d n) n) V n)
theorem QbN (s:List Int)(V:Nat→List Int)(j k:Nat):(Lit.int .i64 (Qan s V j k)).wf=true:=by
 cases k with
 | zero=>show (Lit.int .i64 0).wf=true;decide
 | succ k=>exact Qeg _ _
theorem Qka (s:List Int)(V:Nat→List Int)(n j:Nat):(Lit.int .i64 (QaF s V n j)).wf=true:=wCz _
theorem QfD (q:List Int)(K V:Nat→List Int)(d n:Nat):∀ z∈QcA q K V d n,(Lit.int .i64 z).wf=true:=fun z hz=>by
 obtain⟨y,_,rfl⟩:=List.mem_map.1 hz
 exact Qka _ _ _ _
theorem Qcn (q:List Int)(K V:Nat→List Int)(d n:Nat):(QcA q K V d n).length=d:=by simp[QcA]
theorem QcD (q:List Int)(K:Nat→List Int)(d n:Nat):(scoresZ q K d n).length=n:=by simp[scoresZ]
theorem Qj5 (a b:Int):(Lit.int .i64 (mulZ a b)).wf=true:=wCz _
theorem Qj8 (a b:List Int)(n:Int):(Lit.int .i64 (Qce a b n)).wf=true:=wCz _
theorem Qb2 (x:Int):0≤Qbe x∧Qbe x≤2147483647:=by
 unfold Qbe
 split
 ·omega
 ·have q:=QcR (cZ x) (by omega)
  have s:=Qjb _ q.1 q.2
  refine⟨s.1,?_⟩
  rcases Int.lt_or_le 2147483647 (Qd2 (281474976710656/cZ x)) with h|h
  ·have:2147483648*2147483648≤Qd2 (281474976710656/cZ x)*Qd2 (281474976710656/cZ x):=Int.mul_le_mul (by omega) (by omega) (by omega) (by omega)
   omega
  ·exact h
theorem Qge (x:Int):(Lit.int .i64 (Qbe x)).wf=true:=by
 have:=Qb2 x
 exact WalkArith.wf_i64 ⟨by omega,by omega⟩
theorem QdK (z:List Int)(n k:Nat):-2147483648≤(QbE z n).getD k 0∧(QbE z n).getD k 0≤2147483647:=by
 by_cases h:k<n
 ·have e:(QbE z n).getD k 0=QaW z (topZ (-2147483648) z n) (sumE z (topZ (-2147483648) z n) n) k:=by simp[QbE,h]
  rw[e]
  unfold QaW divZ
  split
  ·unfold Qb6
   repeat' split
   all_goals omega
  ·exact cZb _
 ·have e:(QbE z n).getD k 0=0:=by simp[QbE,h]
  rw[e]
  omega
theorem Qnk (d:Nat)(hb:d*8≤140737488355328):0≤(d:Int)*65536∧(d:Int)*65536≤9223372036854775807:=by omega
theorem QhG (a0 : Option Addr) (d c0 : Nat) (q : List Int) (a1 : Option Addr) (n c1 : Nat) (A : Nat → Option Addr) (C : Nat → Nat) (K : Nat → List Int) (w : World)
    (h0 : Reads .i64 w a0 d q) (h1 : Grid w a1 n A C K) (hr : ∀ r, r < n → (K r).length = d) (hb0 : d * 8 ≤ 140737488355328) (hb1 : n * 8 ≤ 140737488355328) :
    Calls Tryz.prog 119 #[.slice a0 d c0, .slice a1 n c1] w fun e w' => (∃ a c, e = .returned (.slice a n c) ∧ Reads .i64 w' a n (scoresZ q K d n)) ∧ Bw w w' := by
  obtain ⟨i0, hi, hz0, hz1, hz2⟩ := info_parts QaT
  have hm := h1.max
  have lm := Qnk d hb0
  have kr := Qfl ((d : Int) * 65536)
  have wr' := Qge ((d : Int) * 65536)
  have ef : ∀ i, scoreF q K d i = mulZ (Qce q (K i) 16) (Qbe ((d : Int) * 65536)) := fun _ => rfl
  obtain ⟨S, eS⟩ : ∃ S, Qbe ((d : Int) * 65536) = S := ⟨_, rfl⟩
  rw [eS] at kr wr'
  simp only [eS] at ef
  clear eS
  go_enter Tryz.func119, Tryz.ntmps119
  go_wp2_with (first
    | (go_at_call 101; refine (kr _).mono ?_; rintro e w' ⟨rfl, h⟩; obtain rfl := h.symm)
    | (at_make; refine wpList_make_full _ rfl (.tmp 16) (.tmp 16) 34 rfl w.heap.size 2 i0 (I4 0) 1 Tryz.underlying34 hi hz0 hz1 .i64 .i64 _ _ n rfl rfl rfl rfl (by rw [hz2]; omega) (by unfold maxLen; omega) nL ?_; intro w1 hown hgrow))
  have hbel : Bw w w1 := bR.grown hgrow nL (fun k h => by cases h)
  go_wp2
  go_loopw [20] (fun i wr => ∃ k : Nat, k ≤ n ∧ i = I4 k ∧ Bw w wr ∧ ∃ cs, wr.ownsRow w.heap.size 2 1 (.slice (some ⟨w.heap.size, 0, none⟩) n n) n cs ∧ ∀ j, j < k → cs[j]? = some (I4 (scoreF q K d j))) (fun i _ => n - (intOf i).toNat)
  case atStart => exact ⟨0, Nat.zero_le _, rfl, hbel, _, hown, fun j hj => by omega⟩
  case round =>
    obtain ⟨k, hk, rfl, hbr, cs, ho, hcs⟩ := hrel
    by_cases hlt : k < n
    · have hg := h1.below hbr
      obtain ⟨x, rfl⟩ := h1.some_ (by omega)
      have cx := hg.cell x rfl k hlt
      have rk := hg.row k hlt
      rw [hr k hlt] at cx rk
      have ki := QjD a0 d c0 q (A k) d (C k) (K k) wr (h0.below hbr) rk
      simp only [if_true] at ki
      have wd := Qj8 q (K k) 16
      have hlen := oLe ho
      have efk := ef k
      obtain ⟨D, eD⟩ : ∃ D, Qce q (K k) 16 = D := ⟨_, rfl⟩
      rw [eD] at ki wd efk
      have km := fun W => mul_call D S wd wr' W
      rw [← efk] at km
      have step := fun (W : World) (hs : W.ownsRow w.heap.size 2 1 (.slice (some ⟨w.heap.size, 0, none⟩) n n) n cs) => And.intro (hs.stored k (I4 (scoreF q K d k))).1 (set_step (F := fun j => Value.int .i64 (scoreF q K d j)) hlen hlt rfl hcs)
      obtain ⟨u, hu⟩ : ∃ u, cs[k]? = some u := ⟨cs[k], by simp [hlen, hlt]⟩
      obtain ⟨E, eE⟩ : ∃ E, scoreF q K d k = E := ⟨_, rfl⟩
      rw [eE] at km step
      clear eE efk eD ef hg rk hown hgrow hbel hi hz0 hz1 hz2 h1 h0 hr kr hcs
      go_wp2_with (first
        | (go_at_call 136; refine ki.mono ?_; rintro e W2 ⟨rfl, hq⟩
           have hb2 := bDr (Below.refl wr.heap.size wr) hq
           have ho2 := oBe ho hb2
           have cell2 : W2.cell? ⟨w.heap.size, k, none⟩ = some u := (ho2.cellAt k (by omega)).trans hu
           have froz2 := ho2.frozenAt k
           have st2 := step W2 ho2
           have R : Hid (Bw w (W2.setCell ⟨w.heap.size, k, none⟩ (I4 E)) ∧ ∃ cs', (W2.setCell ⟨w.heap.size, k, none⟩ (I4 E)).ownsRow w.heap.size 2 1 (.slice (some ⟨w.heap.size, 0, none⟩) n n) n cs' ∧ ∀ j, j < k + 1 → cs'[j]? = some (I4 (scoreF q K d j))) :=
             ⟨(bTn hbr hb2).setCell nL _, _, st2.1, st2.2⟩
           clear ho2 st2 hb2 hq ki)
        | (go_at_call 104; refine (km _).mono ?_; rintro e w' ⟨rfl, h⟩; obtain rfl := h.symm))
      go_roundw
      case rel => exact ⟨k + 1, by omega, by go_num, R.out⟩
      case measure => simp [intOf]; omega
    · have e : k = n := by omega
      subst e
      have fin := oRa (zs := scoresZ q K d k) ho (QcD ..) (fun z hz => by obtain ⟨y, _, rfl⟩ := List.mem_map.1 hz; exact Qj5 _ _) (fun i hi => by rw [hcs i hi]; simp [scoresZ, hi])
      clear hcs ho
      go_wp2
      go_ret
      exact ⟨⟨_, _, rfl, fin⟩, hbr⟩
theorem Qhm (a0:Option Addr)(n c0:Nat)(s:List Int)(a2:Option Addr)(m c2:Nat)(A:Nat→Option Addr)(C:Nat→Nat)(V:Nat→List Int)(d j:Nat)(w:World)
  (h0:Reads .i64 w a0 n s) (h2:Grid w a2 m A C V) (hnm:n=m) (hr:∀ r,r<n→(V r).length=d) (hj:j<d) (hs:∀ k,-2147483648≤s.getD k 0∧s.getD k 0≤2147483647) :
  Calls Tryz.prog 120 #[.slice a0 n c0,.slice a2 m c2,I4 j] w fun e w'=>e=.returned (I4 (QaF s V n j))∧w'=w:=by
 subst hnm
 have hm:=h0.max
 unfold QaF
 go_enter Tryz.func120,Tryz.ntmps120
 go_wp2
 go_loopw [7,12] (fun b i wr=>∃ k:Nat,k≤n∧i=I4 k∧b=I4 (Qan s V j k)∧wr=w) (fun _ i _=>n-(intOf i).toNat)
 case atStart=>exact⟨0,Nat.zero_le _,rfl,rfl,rfl⟩
 case round =>
  obtain⟨k,hk,rfl,rfl,hw⟩:=hrel
  subst hw
  by_cases hlt:k<n
  ·obtain⟨x,rfl⟩:=h0.some_ (by omega)
   obtain⟨y,rfl⟩:=h2.some_ (by omega)
   have cx:=h0.cell x rfl k hlt
   have cy:=h2.cell y rfl k hlt
   have rk:=h2.row k hlt
   rw[hr k hlt] at cy rk
   have hd:=rk.max
   obtain⟨z,ez⟩:=rk.some_ (by omega)
   have cz:=rk.cell z ez j hj
   rw[ez] at cy
   have es:Qan s V j (k+1)=addZ (Qan s V j k) (s.getD k 0*cZ ((V k).getD j 0)):=rfl
   have ws:=QbN s V j k
   have bs:=hs k
   obtain⟨X,eX⟩:∃ X,s.getD k 0=X:=⟨_,rfl⟩
   obtain⟨Y,eY⟩:∃ Y,(V k).getD j 0=Y:=⟨_,rfl⟩
   obtain⟨S,eS⟩:∃ S,Qan s V j k=S:=⟨_,rfl⟩
   rw[eX] at cx es bs
   rw[eY] at cz es
   rw[eS] at es ws ⊢
   have bc:=cZb Y
   have bp:=QbJ _ _ bs bc
   have kc:=fun W=>cCa Y W
   have wp:(Lit.int .i64 (X*cZ Y)).wf=true:=WalkArith.wf_i64 ⟨by omega,by omega⟩
   obtain⟨Z,eZ⟩:∃ Z,cZ Y=Z:=⟨_,rfl⟩
   rw[eZ] at es bc bp kc wp
   have ka:=fun W=>Qdn S (X*Z) ws wp W
   have Es:Hid (Qan s V j (k+1)=addZ S (X*Z)):=es
   obtain⟨T,eT⟩:∃ T,addZ S (X*Z)=T:=⟨_,rfl⟩
   rw[eT] at Es ka
   obtain⟨b1,b2⟩:=bp
   clear eX eY eS eZ eT es rk h0 h2 hr hs
   go_wp2_with (first
    | (go_at_call 114;refine (kc _).mono ?_;rintro e w' ⟨rfl,h⟩;obtain rfl:=h.symm)
    | (go_at_call 113;refine (ka _).mono ?_;rintro e w' ⟨rfl,h⟩;obtain rfl:=h.symm))
   go_roundw
   case rel=>exact⟨k+1,by omega,by go_num,by rw[Es.out],trivial⟩
   case measure=>simp[intOf];omega
  ·have e:k=n:=by omega
   subst e
   have ws:=QbN s V j k
   go_wp2_with (first|(go_at_call 115;refine (shift_call _ _ ws (by decide) _).mono ?_;rintro e w' ⟨rfl,rfl⟩)|(go_at_call 114;refine (cCa _ _).mono ?_;rintro e w' ⟨rfl,rfl⟩))
   go_ret
   exact⟨rfl,rfl⟩
theorem Qmv (a0:Option Addr)(d c0:Nat)(q:List Int)(a1:Option Addr)(n c1:Nat)(A:Nat→Option Addr)(C:Nat→Nat)(K:Nat→List Int)(a2:Option Addr)(c2:Nat)(A':Nat→Option Addr)(C':Nat→Nat)(V:Nat→List Int)(w:World)
  (h0:Reads .i64 w a0 d q) (h1:Grid w a1 n A C K) (h2:Grid w a2 n A' C' V) (hd:0<d) (hn:0<n) (hr:∀ r,r<n→(K r).length=d∧(V r).length=d) (hb0:d*8≤140737488355328) (hb1:n*8≤140737488355328) :
  Calls Tryz.prog 98 #[.slice a0 d c0,.slice a1 n c1,.slice a2 n c2] w fun e w'=>(∃ a c,e=.returned (.tuple #[.slice a d c,I4 0])∧Reads .i64 w' a d (QcA q K V d n)∧(a=none→c=0))∧Bw w w':=by
 obtain⟨i0,hi,hz0,hz1,hz2⟩:=info_parts QaT
 have hm:=h0.max
 have kf:=QiU a0 d c0 a1 n c1 A C K a2 c2 A' C' V w h1 h2 hd hn hr
 have kc:=QhG a0 d c0 q a1 n c1 A C K w h0 h1 (fun r h=>(hr r h).1) hb0 hb1
 have sl:=QdK (scoresZ q K d n) n
 have eh:QcA q K V d n=(List.range d).map (QaF (QbE (scoresZ q K d n) n) V n):=rfl
 have wh:=QfD q K V d n
 have lh:=Qcn q K V d n
 have kso:=fun (W:World) a c (h:Reads .i64 W a n (scoresZ q K d n))=>Qgn a n c (scoresZ q K d n) W h (by omega)
 obtain⟨s,es⟩:∃ s,QbE (scoresZ q K d n) n=s:=⟨_,rfl⟩
 rw[es] at sl eh
 simp only[es] at kso
 obtain⟨t,et⟩:∃ t,scoresZ q K d n=t:=⟨_,rfl⟩
 simp only[et] at kso
 rw[et] at kc
 clear es et
 go_enter Tryz.func98,Tryz.ntmps98
 go_wp2_with (first
  | (go_at_call 96;refine kf.mono ?_;rintro e w' ⟨rfl,h⟩;obtain rfl:=h.symm;clear kf)
  | (go_at_call 119;refine kc.mono ?_;rintro e W1 ⟨⟨pa,pc,rfl,r1⟩,b1⟩;clear kc)
  | (go_at_call 118;refine (kso W1 pa pc r1).mono ?_;rintro e W2 ⟨⟨sa,sc,rfl,r2⟩,b2⟩;replace b2:=bTn b1 b2;clear kso r1)
  | (at_make;refine wpList_make_full _ rfl (.tmp 21) (.tmp 21) 34 rfl w.heap.size 2 i0 (I4 0) 1 Tryz.underlying34 hi hz0 hz1 .i64 .i64 _ _ d rfl rfl rfl rfl (by rw[hz2];omega) (by unfold maxLen;omega) b2.size ?_;intro w1 hown hgrow))
 have b3:Bw W2 w1:=bR.grown hgrow nL (fun k h=>by cases h)
 have hg:=b2.size
 have g2:=h2.below b2
 clear hgrow h2 h1 h0 b1
 go_wp2
 go_loopw [25] (fun i wr=>∃ k:Nat,k≤d∧i=I4 k∧Bw W2 wr∧∃ cs,wr.ownsRow w.heap.size 2 1 (.slice (some ⟨W2.heap.size,0,none⟩) d d) d cs∧∀ j,j<k→cs[j]? = some (I4 (QaF s V n j))) (fun i _=>d-(intOf i).toNat)
 case atStart=>exact⟨0,Nat.zero_le _,rfl,b3,_,hown,fun j hj=>by omega⟩
 case round =>
  clear hown b3
  obtain⟨k,hk,rfl,hbr,cs,ho,hcs⟩:=hrel
  by_cases hlt:k<d
  ·have kb:=Qhm sa n sc s a2 n c2 A' C' V d k wr (r2.below hbr) (g2.below hbr) rfl (fun r h=>(hr r h).2) hlt sl
   have hlen:=oLe ho
   obtain⟨u,hu⟩:∃ u,cs[k]? = some u:=⟨cs[k],by simp[hlen,hlt]⟩
   have cell:wr.cell? ⟨W2.heap.size,k,none⟩=some u:=(ho.cellAt k (by omega)).trans hu
   have froz:=ho.frozenAt k
   have R:Hid (Bw W2 (wr.setCell ⟨W2.heap.size,k,none⟩ (I4 (QaF s V n k)))∧∃ cs',(wr.setCell ⟨W2.heap.size,k,none⟩ (I4 (QaF s V n k))).ownsRow w.heap.size 2 1 (.slice (some ⟨W2.heap.size,0,none⟩) d d) d cs'∧∀ j,j<k+1→cs'[j]? = some (I4 (QaF s V n j))) :=
    ⟨hbr.setCell nL _,_,(ho.stored k _).1,set_step (F:=fun j=>Value.int .i64 (QaF s V n j)) hlen hlt rfl hcs⟩
   obtain⟨E,eE⟩:∃ E,QaF s V n k=E:=⟨_,rfl⟩
   rw[eE] at kb R
   clear eE ho hcs hlen hbr hr sl g2 r2 eh wh lh hi hz0 hz1 hz2 hu
   go_wp2_with (go_at_call 120;refine kb.mono ?_;rintro e w' ⟨rfl,h⟩;obtain rfl:=h.symm)
   go_roundw
   case rel=>exact⟨k+1,by omega,by go_num,R.out⟩
   case measure=>simp[intOf];omega
  ·have e:k=d:=by omega
   subst e
   have fin:=oRa (zs:=QcA q K V k n) ho lh wh (fun i hi=>by rw[hcs i hi,eh];simp[hi])
   have bw:=bTn b2 hbr
   clear hcs ho
   go_wp2
   go_ret2
   exact⟨⟨_,_,rfl,fin,fun h=>by cases h⟩,bw⟩
def sqZ (z:List Int):Nat→Int
 | 0=>0
 | k+1=>addZ (sqZ z k) (cZ (z.getD k 0)*cZ (z.getD k 0))
theorem QmJ (z:List Int)(k:Nat):(Lit.int .i64 (sqZ z k)).wf=true:=by
 cases k with
 | zero=>show (Lit.int .i64 0).wf=true;decide
 | succ k=>exact Qeg _ _
theorem QnO (x:Int)(h:-2147483648≤x∧x≤2147483648):0≤x*x∧x*x≤4611686018427387904:=by
 have e:x*x=((x.natAbs*x.natAbs:Nat):Int):=by rw[←Int.natAbs_mul_self]
 have b:x.natAbs*x.natAbs≤2147483648*2147483648:=Nat.mul_le_mul (by omega) (by omega)
 omega
theorem QhC (x:Int):0≤cZ x*cZ x∧cZ x*cZ x≤4611686018427387904:=by
 have b:=cZb x
 exact QnO _ ⟨by omega,by omega⟩
theorem Qfe (z:List Int)(k:Nat):0≤sqZ z k∧sqZ z k≤9223372036854775807:=by
 induction k with
 | zero=>exact⟨Int.le_refl _,show (0:Int)≤9223372036854775807 by decide⟩
 | succ k ih =>
  have p:=QhC (z.getD k 0)
  show 0≤addZ (sqZ z k) _∧addZ (sqZ z k) _≤_
  generalize cZ (z.getD k 0)*cZ (z.getD k 0)=P at *
  unfold addZ
  repeat' split
  all_goals omega
def Qd3 (z:List Int)(n:Nat):Int:=cZ (Qac ((sqZ z n).tdiv n) 16+1)
theorem Qem (S:Int)(n:Nat)(h0:0≤S):0≤S.tdiv n∧S.tdiv n≤S:=by
 rw[Int.tdiv_eq_ediv_of_nonneg h0]
 exact⟨Int.ediv_nonneg h0 (Int.natCast_nonneg n),Int.ediv_le_self _ h0⟩
theorem QcC (x:Int)(h0:0≤x)(h1:x≤9223372036854775807):0≤Qac x 16∧Qac x 16≤4611686018427387905:=by
 unfold Qac
 rw[if_neg (by omega),if_neg (by omega)]
 have:=Qa3 x (min 16 62) h0 (by omega) (by omega)
 omega
theorem QeQ (a0:Option Addr)(n c0:Nat)(zs:List Int)(w:World)(h0:Reads .i64 w a0 n zs)(hn:0<n) :
  Calls Tryz.prog 102 #[.slice a0 n c0] w fun e w'=>e=.returned (I4 (Qd3 zs n))∧w'=w:=by
 have hm:=h0.max
 unfold Qd3
 go_enter Tryz.func102,Tryz.ntmps102
 go_wp2
 go_loopw [3,8] (fun s i wr=>∃ k:Nat,k≤n∧i=I4 k∧s=I4 (sqZ zs k)∧wr=w) (fun _ i _=>n-(intOf i).toNat)
 case atStart=>exact⟨0,Nat.zero_le _,rfl,rfl,rfl⟩
 case round =>
  obtain⟨k,hk,rfl,rfl,hw⟩:=hrel
  subst hw
  by_cases hlt:k<n
  ·obtain⟨x,rfl⟩:=h0.some_ (by omega)
   have cx:=h0.cell x rfl k hlt
   have es:sqZ zs (k+1)=addZ (sqZ zs k) (cZ (zs.getD k 0)*cZ (zs.getD k 0)):=rfl
   have ws:=QmJ zs k
   obtain⟨Z,eZ⟩:∃ Z,zs.getD k 0=Z:=⟨_,rfl⟩
   obtain⟨S,eS⟩:∃ S,sqZ zs k=S:=⟨_,rfl⟩
   rw[eZ] at cx es
   rw[eS] at es ws ⊢
   have Es:Hid (sqZ zs (k+1)=addZ S (cZ Z*cZ Z)):=es
   clear eZ eS es
   have bp:=QhC Z
   have wp:(Lit.int .i64 (cZ Z*cZ Z)).wf=true:=WalkArith.wf_i64 ⟨by omega,by omega⟩
   go_wp2_with (first|(go_at_call 114;refine (cCa _ _).mono ?_;rintro e w' ⟨rfl,h⟩;obtain rfl:=h.symm)|(go_at_call 113;refine (Qdn _ _ ws wp _).mono ?_;rintro e w' ⟨rfl,h⟩;obtain rfl:=h.symm))
   go_roundw
   case rel=>exact⟨k+1,by omega,by go_num,by rw[Es.out],trivial⟩
   case measure=>simp[intOf];omega
  ·have e:k=n:=by omega
   subst e
   have sb:=Qfe zs k
   obtain⟨S,eS⟩:∃ S,sqZ zs k=S:=⟨_,rfl⟩
   rw[eS] at sb ⊢
   have ES:Hid (sqZ zs k=S):=eS
   clear eS
   have tb:=Qem S k sb.1
   obtain⟨t0,t1⟩:=tb
   have t2:S.tdiv k≤9223372036854775807:=by omega
   have wq:(Lit.int .i64 (S.tdiv k)).wf=true:=WalkArith.wf_i64 ⟨by omega,by omega⟩
   have shb:=QcC (S.tdiv k) t0 t2
   obtain⟨u0,u1⟩:=shb
   have kz:((k:Int)==0)=false:=by simp;omega
   go_wp2_with (first|(go_at_call 115;refine (shift_call _ _ wq (by decide) _).mono ?_;rintro e w' ⟨rfl,h⟩;obtain rfl:=h.symm)|(go_at_call 114;refine (cCa _ _).mono ?_;rintro e w' ⟨rfl,h⟩;obtain rfl:=h.symm))
   go_ret
   exact⟨by obtain rfl:=ES.out;rfl,rfl⟩
def Qeh (x y:Int):Int:=cZ (Qac (x*y) 6)
theorem QdI (x y:Int)(hx:-2147483648≤x∧x≤2147483647)(hy:-128≤y∧y≤127):-274877906944≤x*y∧x*y≤274877906944:=by
 have h:(x*y).natAbs≤2147483648*128:=by
  rw[Int.natAbs_mul]
  exact Nat.mul_le_mul (by omega) (by omega)
 omega
theorem QnK {y:Int}(h:(Lit.int .i8 y).wf=true):-128≤y∧y≤127:=by
 simpa [Lit.wf,IntKind.min,IntKind.max,IntKind.signed,IntKind.bits] using h
theorem Qgg (x y:Int)(hx:-2147483648≤x∧x≤2147483647)(hy:(Lit.int .i8 y).wf=true)(w:World) :
  Calls Tryz.prog 103 #[I4 x,.int .i8 y] w fun e w'=>e=.returned (I4 (Qeh x y))∧w'=w:=by
 have b8:=QnK hy
 have bp:=QdI x y hx b8
 obtain⟨p0,p1⟩:=bp
 obtain⟨b0,b1⟩:=b8
 obtain⟨x0,x1⟩:=hx
 have wp:(Lit.int .i64 (x*y)).wf=true:=WalkArith.wf_i64 ⟨by omega,by omega⟩
 unfold Qeh
 go_enter Tryz.func103,Tryz.ntmps103
 go_wp2_with (first|(go_at_call 115;refine (shift_call _ _ wp (by decide) _).mono ?_;rintro e w' ⟨rfl,h⟩;obtain rfl:=h.symm)|(go_at_call 114;refine (cCa _ _).mono ?_;rintro e w' ⟨rfl,h⟩;obtain rfl:=h.symm))
 go_ret
 exact⟨rfl,rfl⟩
def rmsF (xs ws:List Int)(r:Int)(j:Nat):Int:=Qeh (mulZ (xs.getD j 0) r) (ws.getD j 0)
def rmsZ (xs ws:List Int)(n:Nat):List Int:=(List.range n).map (rmsF xs ws (Qbe (Qd3 xs n)))
theorem Ql4 (a0:Option Addr)(n c0:Nat)(xs:List Int)(a1:Option Addr)(c1:Nat)(ys:List Int)(w:World)(h0:Reads .i64 w a0 n xs)(h1:Reads .i8 w a1 n ys)(hn:0<n)(hb:n*8≤281474976710656) :
  Calls Tryz.prog 64 #[.slice a0 n c0,.slice a1 n c1] w fun e w'=>(∃ a c,e=.returned (.tuple #[.slice a n c,I4 0])∧Reads .i64 w' a n (rmsZ xs ys n)∧∀ x,a=some x→w.heap.size≤x.block)∧Bw w w':=by
 obtain⟨i0,hi,hz0,hz1,hz2⟩:=info_parts QaT
 have hm:=h0.max
 have rb:=Qb2 (Qd3 xs n)
 have kms:=QeQ a0 n c0 xs w h0 hn
 have krs:=fun W=>Qfl (Qd3 xs n) W
 unfold rmsZ
 obtain⟨r,er⟩:∃ r,Qbe (Qd3 xs n)=r:=⟨_,rfl⟩
 obtain⟨M,eM⟩:∃ M,Qd3 xs n=M:=⟨_,rfl⟩
 rw[er] at rb ⊢
 rw[er] at krs
 rw[eM] at kms krs
 clear er eM
 have wr':(Lit.int .i64 r).wf=true:=WalkArith.wf_i64 ⟨by omega,by omega⟩
 have nz:((n:Int)==0)=false:=by simp;omega
 go_enter Tryz.func64,Tryz.ntmps64
 go_wp2_with (first
  | (go_at_call 102;refine kms.mono ?_;rintro e w' ⟨rfl,h⟩;obtain rfl:=h.symm)
  | (go_at_call 101;refine (krs _).mono ?_;rintro e w' ⟨rfl,h⟩;obtain rfl:=h.symm)
  | (at_make;refine wpList_make_full _ rfl (.tmp 23) (.tmp 23) 34 rfl w.heap.size 2 i0 (I4 0) 1 Tryz.underlying34 hi hz0 hz1 .i64 .i64 _ _ n rfl rfl rfl rfl (by rw[hz2];omega) (by unfold maxLen;omega) nL ?_;intro w1 hown hgrow))
 have hbel:Bw w w1:=bR.grown hgrow nL (fun k h=>by cases h)
 go_wp2
 go_loopw [27] (fun i wr=>∃ k:Nat,k≤n∧i=I4 k∧Bw w wr∧∃ cs,wr.ownsRow w.heap.size 2 1 (.slice (some ⟨w.heap.size,0,none⟩) n n) n cs∧∀ j,j<k→cs[j]? = some (I4 (rmsF xs ys r j))) (fun i _=>n-(intOf i).toNat)
 case atStart=>exact⟨0,Nat.zero_le _,rfl,hbel,_,hown,fun j hj=>by omega⟩
 case round =>
  obtain⟨k,hk,rfl,hbr,cs,ho,hcs⟩:=hrel
  by_cases hlt:k<n
  ·have hr:=h0.below hbr
   have hq:=h1.below hbr
   obtain⟨x,rfl⟩:=h0.some_ (by omega)
   obtain⟨y,rfl⟩:=h1.some_ (by omega)
   have cx:=hr.cell x rfl k hlt
   have cy:=hq.cell y rfl k hlt
   have wx:=h0.wf k
   have wy:=h1.wf k
   have hlen:=oLe ho
   have cell:wr.cell? ⟨w.heap.size,k,none⟩=cs[k]?:=ho.cellAt k (by omega)
   obtain⟨u,hu⟩:∃ u,cs[k]? = some u:=⟨cs[k],by simp[hlen,hlt]⟩
   rw[hu] at cell
   have froz:=ho.frozenAt k
   have st:=fun v=>ho.stored k v
   have step:=fun v (h:v=Value.int .i64 (rmsF xs ys r k))=>set_step (F:=fun j=>Value.int .i64 (rmsF xs ys r j)) hlen hlt h hcs
   obtain⟨X,eX⟩:∃ X,xs.getD k 0=X:=⟨_,rfl⟩
   obtain⟨Y,eY⟩:∃ Y,ys.getD k 0=Y:=⟨_,rfl⟩
   have eP:rmsF xs ys r k=Qeh (mulZ X r) Y:=by unfold rmsF;rw[eX,eY]
   rw[eX] at cx wx
   rw[eY] at cy wy
   rw[eP] at step
   have R:Hid (Bw w (wr.setCell ⟨w.heap.size,k,none⟩ (I4 (Qeh (mulZ X r) Y)))∧∃ cs',(wr.setCell ⟨w.heap.size,k,none⟩ (I4 (Qeh (mulZ X r) Y))).ownsRow w.heap.size 2 1 (.slice (some ⟨w.heap.size,0,none⟩) n n) n cs'∧∀ j,j<k+1→cs'[j]? = some (I4 (rmsF xs ys r j))) :=
    ⟨hbr.setCell nL _,_,(st _).1,step _ rfl⟩
   have mb:=QaA X r
   clear eX eY eP step st hcs ho hu hlen hr hbr hq hown hgrow hbel h0 h1 hi hz0 hz1 hz2 kms krs
   go_wp2
   go_region_with (first
    | (go_at_call 104;refine (mul_call _ _ wx wr' _).mono ?_;rintro e w' ⟨rfl,rfl⟩)
    | (go_at_call 103;refine (Qgg _ _ mb wy _).mono ?_;rintro e w' ⟨rfl,rfl⟩))
   all_goals
    go_wp2
    go_roundw
    case rel=>exact⟨k+1,by omega,by go_num,R.out.1.drew,R.out.2⟩
    case measure=>simp[intOf];omega
  ·have e:k=n:=by omega
   subst e
   have fin:=oRa (zs:=(List.range k).map (rmsF xs ys r)) ho (by simp) (fun z hz=>by obtain⟨y,_,rfl⟩:=List.mem_map.1 hz;exact wCz _) (fun j hj=>by rw[hcs j hj];simp[hj])
   clear hcs ho
   go_wp2
   go_ret2
   exact⟨⟨_,_,rfl,fin,fun x hx=>Nat.le_of_eq (congrArg Addr.block (Option.some.inj hx))⟩,hbr⟩
theorem QeT (a0:Option Addr)(n c0:Nat)(ws:List Int)(r:Int)(a2:Option Addr)(d c2:Nat)(xs:List Int)(w:World)
  (h0:Reads .i8 w a0 n ws) (hc:n≤c0) (h2:Reads .i64 w a2 d xs) (hf:fitB n r d=true) (hb:n*8≤140737488355328) :
  Calls Tryz.prog 49 #[.slice a0 n c0,I4 r,.slice a2 d c2] w fun e w'=>(∃ cs,e=.returned (.tuple #[.slice (some ⟨w.heap.size,0,none⟩) (n/d) (n/d),I4 0])∧Reads .i64 w' (some ⟨w.heap.size,0,none⟩) (n/d) (matL ws xs) ∧
   w'.ownsRow w.heap.size 2 1 (.slice (some ⟨w.heap.size,0,none⟩) (n/d) (n/d)) (n/d) cs∧∀ j,j<n/d→cs[j]? = some (I4 (rowZ ws d xs j)))∧Bw w w':=by
 obtain⟨hd,hn,hr⟩:=Qbn hf
 have hle:=Nat.div_le_self n d
 rw[hr]
 refine (QfZ a0 n c0 ws (n/d) a2 d c2 xs w h0 hc h2 hd hn (by omega)).mono ?_
 rintro e w' ⟨⟨a,c,cs,he,hR,rfl,rfl,ho,hcs⟩,hB⟩
 refine⟨⟨cs,he,?_,ho,hcs⟩,hB⟩
 unfold matL
 rw[h0.len,h2.len]
 exact hR
theorem Qn7 (a0:Option Addr)(n c0:Nat)(r:Int)(a2:Option Addr)(d c2:Nat)(w:World)(hm:n≤9223372036854775807)(hm2:d≤9223372036854775807)(hr:(Lit.int .i64 r).wf=true)(hf:fitB n r d=false) :
  Calls Tryz.prog 49 #[.slice a0 n c0,I4 r,.slice a2 d c2] w fun e w'=>e=.returned (.tuple #[.slice none 0 0,I4 21])∧w'=w :=
 Qii a0 n c0 r a2 d c2 w hm hm2 hr (of_decide_eq_false hf)
theorem QbU (a0:Option Addr)(n c0:Nat)(ws:List Int)(r:Int)(a2:Option Addr)(d c2:Nat)(xs:List Int)(w:World)
  (h0:Reads .i8 w a0 n ws) (hc:n≤c0) (h2:Reads .i64 w a2 d xs) (hf:fitB n r d=true) (hb:n*8≤140737488355328) :
  Calls Tryz.prog 51 #[.slice a0 n c0,I4 r,.slice a2 d c2] w fun e w'=>(∃ a c,e=.returned (.tuple #[.slice a (n/d) c,I4 0])∧Reads .i64 w' a (n/d) (matL ws xs)∧∀ x,a=some x→w.heap.size≤x.block)∧Bw w w':=by
 obtain⟨hd,hn,hr⟩:=Qbn hf
 have hle:=Nat.div_le_self n d
 rw[hr]
 refine (QeG a0 n c0 ws (n/d) a2 d c2 xs w h0 hc h2 hd hn (by omega)).mono ?_
 rintro e w' ⟨⟨a,c,he,hR,fr⟩,hB⟩
 refine⟨⟨a,c,he,?_,fr.1⟩,hB⟩
 unfold matL
 rw[h0.len,h2.len]
 exact hR
theorem QeF (a0:Option Addr)(n c0:Nat)(r:Int)(a2:Option Addr)(d c2:Nat)(w:World)(hm:n≤9223372036854775807)(hm2:d≤9223372036854775807)(hr:(Lit.int .i64 r).wf=true)(hf:fitB n r d=false) :
  Calls Tryz.prog 51 #[.slice a0 n c0,I4 r,.slice a2 d c2] w fun e w'=>e=.returned (.tuple #[.slice none 0 0,I4 21])∧w'=w :=
 Qdy a0 n c0 r a2 d c2 w hm hm2 hr (of_decide_eq_false hf)
theorem QlM (y:Int):(Lit.int .i64 (siluZ y)).wf=true:=wCz _
theorem QkY (a0 : Option Addr) (n0 c0 : Nat) (up : List Int) (a1 : Option Addr) (n1 c1 : Nat) (down : List Int) (h : Int) (a3 : Option Addr) (n3 c3 : Nat) (xs : List Int) (w : World) (h0 : Reads .i8 w a0 n0 up) (l0 : n0 ≤ c0) (h1 : Reads .i8 w a1 n1 down) (l1 : n1 ≤ c1) (h3 : Reads .i64 w a3 n3 xs) (wh : (Lit.int .i64 h).wf = true) (b0 : n0 * 8 ≤ 140737488355328) (b1 : n1 * 8 ≤ 140737488355328) (hf : oneB up down h xs = true) :
    Calls Tryz.prog 138 #[.slice a0 n0 c0, .slice a1 n1 c1, I4 h, .slice a3 n3 c3] w fun e w' => (∃ a, e = .returned (.slice (some a) n3 n3) ∧ Reads .i64 w' (some a) n3 (oneL up down xs) ∧ w.heap.size ≤ a.block ∧ a.block < w'.heap.size) ∧ Bw w w' := by
  obtain ⟨f1, f2⟩ := Bool.and_eq_true _ _ ▸ (show (fitB up.length h xs.length && fitB down.length (xs.length : Int) (hidL up xs).length) = true from hf)
  have el := Qb5 hf
  rw [h3.len] at el
  rw [h0.len, h3.len] at f1
  clear hf
  have ku := QeT a0 n0 c0 up h a3 n3 c3 xs w h0 l0 h3 f1 b0
  have hle := Nat.div_le_self n0 n3
  have hm3 := h3.max
  have hm1 := h1.max
  obtain ⟨R, eR⟩ : ∃ R, n0 / n3 = R := ⟨_, rfl⟩
  have eh : (hidL up xs).length = R := by rw [Qb8, h0.len, h3.len, eR]
  rw [eR] at ku hle
  rw [h1.len, h3.len, eh] at f2
  have ha : ∀ j, j < R → (hidL up xs).getD j 0 = siluZ (rowZ up n3 xs j) := fun j hj => by
    rw [Qil _ _ _ (by rw [h0.len, h3.len, eR]; exact hj), h3.len]
  have Eh := hdn (And.intro eh ha)
  clear eR f1 eh ha
  have hRm : R ≤ 9223372036854775807 := by omega
  go_enter Tryz.func138, Tryz.ntmps138
  go_wp2_with (first
    | (go_at_call 49; refine ku.mono ?_; rintro e w1 ⟨⟨cs0, rfl, hr1, ho1, hc1⟩, hb1⟩)
    | (go_at_call 151; refine (QfX _ _ _ _).mono ?_; rintro e w' ⟨rfl, hq⟩; obtain rfl := hq.symm))
  clear ku hr1
  go_loopw [21] (fun i wr => ∃ k : Nat, k ≤ R ∧ i = I4 k ∧ Bw w wr ∧ ∃ cs, wr.ownsRow w.heap.size 2 1 (.slice (some ⟨w.heap.size, 0, none⟩) R R) R cs ∧ (∀ j, j < k → cs[j]? = some (I4 (siluZ (rowZ up n3 xs j)))) ∧ ∀ j, k ≤ j → j < R → cs[j]? = some (I4 (rowZ up n3 xs j))) (fun i _ => R - (intOf i).toNat)
  case atStart => exact ⟨0, Nat.zero_le _, rfl, hb1, _, ho1, fun j hj => by omega, fun j _ hj => hc1 j hj⟩
  case round =>
    clear hc1 ho1 hb1
    obtain ⟨k, hk, rfl, hbr, cs, ho, g1, g2⟩ := hrel
    by_cases hlt : k < R
    · have hlen := oLe ho
      have cell : wr.cell? ⟨w.heap.size, k, none⟩ = some (I4 (rowZ up n3 xs k)) := (ho.cellAt k (by omega)).trans (g2 k nL hlt)
      have wZ : (Lit.int .i64 (rowZ up n3 xs k)).wf = true := wCz _
      have ks := fun W => Qks (rowZ up n3 xs k) wZ W
      have step := fun (W : World) (hs : W.ownsRow w.heap.size 2 1 (.slice (some ⟨w.heap.size, 0, none⟩) R R) R cs) => And.intro (hs.stored k (I4 (siluZ (rowZ up n3 xs k)))).1 (And.intro (set_step (F := fun j => Value.int .i64 (siluZ (rowZ up n3 xs j))) hlen hlt rfl g1) (fun i (h : k + 1 ≤ i) (hi : i < R) => show (cs.set k (Value.int .i64 (siluZ (rowZ up n3 xs k))))[i]? = some (Value.int .i64 (rowZ up n3 xs i)) from by rw [List.getElem?_set_ne (by omega)]; exact g2 i (by omega) hi))
      have hu : cs[k]? = some (I4 (rowZ up n3 xs k)) := g2 k nL hlt
      obtain ⟨Z, eZ⟩ : ∃ Z, rowZ up n3 xs k = Z := ⟨_, rfl⟩
      rw [eZ] at cell ks step hu
      obtain ⟨E, eE⟩ : ∃ E, siluZ Z = E := ⟨_, rfl⟩
      rw [eE] at ks step
      clear eZ eE wZ g1 g2
      go_wp2_with (go_at_call 152; refine (ks _).mono ?_; rintro e W2 ⟨rfl, hb2⟩
                   have ho2 := oBe ho hb2
                   have cell2 : W2.cell? ⟨w.heap.size, k, none⟩ = some (I4 Z) := (ho2.cellAt k (by omega)).trans hu
                   have froz2 := ho2.frozenAt k
                   have R0 : Bw w (W2.setCell ⟨w.heap.size, k, none⟩ (I4 E)) := (bTn hbr hb2).setCell nL _
                   have R' := hdn (And.intro R0 (step W2 ho2))
                   clear R0
                   clear ho2 hb2)
      go_roundw
      case rel => exact ⟨k + 1, by omega, by go_num, R'.out.1, _, R'.out.2.1, R'.out.2.2.1, R'.out.2.2.2⟩
      case measure => simp [intOf]; omega
    · have e : k = R := by omega
      subst e
      have hr1 : Reads .i64 wr (some ⟨w.heap.size, 0, none⟩) k (hidL up xs) := oRa ho Eh.out.1 (fun z hz => by
        obtain ⟨y, _, rfl⟩ := List.mem_map.1 hz
        exact QlM y) (fun j hj => by rw [g1 j hj, Eh.out.2 j hj])
      clear g1 g2 ho
      have kd := QeT a1 n1 c1 down (n3 : Int) (some ⟨w.heap.size, 0, none⟩) k k (hidL up xs) wr (h1.below hbr) l1 hr1 f2 b1
      have en : n1 / k = n3 := by have := (Qbn f2).2.2; omega
      rw [en] at kd
      have hsz := hbr.size
      clear f2 en
      go_wp2_with (first
        | (go_at_call 49; refine kd.mono ?_; rintro e w2 ⟨⟨cs2, rfl, hr2, ho2, -⟩, hb2⟩)
        | (go_at_call 151; refine (QfX _ _ _ _).mono ?_; rintro e w' ⟨rfl, hq⟩; obtain rfl := hq.symm))
      go_ret
      exact ⟨⟨_, rfl, hr2, hsz, (ho2.lt _ rfl).2⟩, bTn hbr hb2⟩
theorem QjP (a0:Option Addr)(K c0:Nat)(zs:List Int)(a1:Option Addr)(c1:Nat)(A:Nat→Option Addr)(C:Nat→Nat)(R:Nat→List Int)(i:Nat)(w:World)
  (h0:Reads .i64 w a0 K zs) (h1:Grid w a1 K A C R) (hi:∀ j,j<K→i<(R j).length) (zb:∀ j,-2147483648≤zs.getD j 0∧zs.getD j 0≤2147483647) (rb:∀ j,j<K→-2147483648≤(R j).getD i 0∧(R j).getD i 0≤2147483647) :
  Calls Tryz.prog 140 #[.slice a0 K c0,.slice a1 K c1,I4 i] w fun e w'=>e=.returned (I4 (Qcd (fun j=>zs.getD j 0) R K i))∧w'=w:=by
 have hm:=h0.max
 go_enter Tryz.func140,Tryz.ntmps140
 go_wp2
 go_loopw [7,12] (fun s j wr=>∃ k:Nat,k≤K∧j=I4 k∧s=I4 (Qay (fun j=>zs.getD j 0) R i k)∧wr=w) (fun _ j _=>K-(intOf j).toNat)
 case atStart=>exact⟨0,Nat.zero_le _,rfl,rfl,rfl⟩
 case round =>
  obtain⟨k,hk,rfl,rfl,hw⟩:=hrel
  subst hw
  by_cases hlt:k<K
  ·obtain⟨x,rfl⟩:=h0.some_ (by omega)
   obtain⟨y,rfl⟩:=h1.some_ (by omega)
   have cx:=h0.cell x rfl k hlt
   have cy:=h1.cell y rfl k hlt
   have hik:=hi k hlt
   have rk:=h1.row k hlt
   obtain⟨z,ez⟩:=rk.some_ (by omega)
   have cz:=rk.cell z ez i hik
   rw[ez] at cy
   have b1:=zb k
   have b2:=rb k hlt
   have es:Qay (fun j=>zs.getD j 0) R i (k+1)=addZ (Qay (fun j=>zs.getD j 0) R i k) (zs.getD k 0*(R k).getD i 0):=rfl
   have wS:=Qcr (fun j=>zs.getD j 0) R i k
   have pb:=QbI _ _ b1 b2
   obtain⟨Z,eZ⟩:∃ Z,zs.getD k 0=Z:=⟨_,rfl⟩
   obtain⟨Y,eY⟩:∃ Y,(R k).getD i 0=Y:=⟨_,rfl⟩
   obtain⟨T,eT⟩:∃ T,Qay (fun j=>zs.getD j 0) R i k=T:=⟨_,rfl⟩
   obtain⟨n,en⟩:∃ n,(R k).length=n:=⟨_,rfl⟩
   rw[eZ,eY] at pb
   rw[eZ] at cx es
   rw[eY] at cz es
   rw[eT] at es wS ⊢
   rw[en] at cy hik
   obtain⟨Pz,eP⟩:∃ Pz,Z*Y=Pz:=⟨_,rfl⟩
   rw[eP] at pb es
   obtain⟨p0,p1⟩:=pb
   have wP:(Lit.int .i64 Pz).wf=true:=WalkArith.wf_i64 ⟨by omega,by omega⟩
   have Es:Hid (Qay (fun j=>zs.getD j 0) R i (k+1)=addZ T Pz):=es
   clear es eZ eY eT en b1 b2 rk ez
   have ka:=fun W=>Qdn T Pz wS wP W
   go_wp2_with (go_at_call 113;refine (ka _).mono ?_;rintro e w' ⟨rfl,hq⟩;obtain rfl:=hq.symm)
   go_roundw
   case rel=>exact⟨k+1,by omega,by go_num,by rw[Es.out],trivial⟩
   case measure=>simp[intOf];omega
  ·have e:k=K:=by omega
   subst e
   have wS:=Qcr (fun j=>zs.getD j 0) R i k
   obtain⟨T,eT⟩:∃ T,Qay (fun j=>zs.getD j 0) R i k=T:=⟨_,rfl⟩
   have Et:Hid (Qay (fun j=>zs.getD j 0) R i k=T):=eT
   rw[eT] at wS ⊢
   clear eT
   have ks:=fun W=>shift_call T 16 wS (by decide) W
   go_wp2_with (first
    | (go_at_call 115;refine (ks _).mono ?_;rintro e w' ⟨rfl,hq⟩;obtain rfl:=hq.symm)
    | (go_at_call 114;refine (cCa _ _).mono ?_;rintro e w' ⟨rfl,hq⟩;obtain rfl:=hq.symm))
   go_ret
   exact⟨by unfold Qcd;rw[Et.out];rfl,rfl⟩
theorem Qfn (a0 : Option Addr) (n0 c0 : Nat) (up : List Int) (a1 : Option Addr) (n1 c1 : Nat) (down : List Int) (h : Int) (a3 : Option Addr) (n3 c3 : Nat) (xs : List Int) (w : World) (h0 : Reads .i8 w a0 n0 up) (l0 : n0 ≤ c0) (h1 : Reads .i8 w a1 n1 down) (l1 : n1 ≤ c1) (h3 : Reads .i64 w a3 n3 xs) (wh : (Lit.int .i64 h).wf = true) (b0 : n0 * 8 ≤ 140737488355328) (b1 : n1 * 8 ≤ 140737488355328) (hf : oneB up down h xs = true) :
    Calls Tryz.prog 110 #[.slice a0 n0 c0, .slice a1 n1 c1, I4 h, .slice a3 n3 c3] w fun e w' => (∃ a c, e = .returned (.tuple #[.slice a n3 c, I4 0]) ∧ Reads .i64 w' a n3 (oneL up down xs) ∧ ∀ x, a = some x → w.heap.size ≤ x.block) ∧ Bw w w' := by
  obtain ⟨f1, f2⟩ := Bool.and_eq_true _ _ ▸ (show (fitB up.length h xs.length && fitB down.length (xs.length : Int) (hidL up xs).length) = true from hf)
  rw [h0.len, h3.len] at f1
  clear hf
  obtain ⟨i0, hi, hz0, hz1, hz2⟩ := info_parts QaT
  have ku := QbU a0 n0 c0 up h a3 n3 c3 xs w h0 l0 h3 f1 b0
  have hle := Nat.div_le_self n0 n3
  have hm3 := h3.max
  have hm1 := h1.max
  obtain ⟨R, eR⟩ : ∃ R, n0 / n3 = R := ⟨_, rfl⟩
  have eh : (hidL up xs).length = R := by rw [Qb8, h0.len, h3.len, eR]
  have em : ∀ j, j < R → (matL up xs).getD j 0 = rowZ up n3 xs j := fun j hj => by
    rw [Qij _ _ _ (by rw [h0.len, h3.len, eR]; exact hj), h3.len]
  rw [eR] at ku hle
  rw [h1.len, h3.len, eh] at f2
  have ha : ∀ j, j < R → (hidL up xs).getD j 0 = siluZ (rowZ up n3 xs j) := fun j hj => by
    rw [Qil _ _ _ (by rw [h0.len, h3.len, eR]; exact hj), h3.len]
  have Eh := hdn (And.intro eh ha)
  clear eR f1 eh ha
  have hRm : R ≤ 9223372036854775807 := by omega
  go_enter Tryz.func110, Tryz.ntmps110
  go_wp2_with (go_at_call 51; refine ku.mono ?_; rintro e w1 ⟨⟨am, cm, rfl, hr1, -⟩, hb1⟩)
  clear ku
  go_loopw [12, 13] (fun v i wr => ∃ k : Nat, k ≤ R ∧ i = I4 k ∧ Bw w1 wr ∧ wr.ownsRow w1.heap.size 2 1 v k (gath (fun j => siluZ (rowZ up n3 xs j)) .i64 k)) (fun _ i _ => R - (intOf i).toNat)
  case atStart => exact ⟨0, Nat.zero_le _, rfl, Below.refl _ _, World.ownsRow_nil _ _ _ _⟩
  case round =>
    obtain ⟨k, hk, rfl, hbr, ho⟩ := hrel
    by_cases hlt : k < R
    · obtain ⟨x, rfl⟩ := hr1.some_ (by omega)
      have cx := (hr1.below hbr).cell x rfl k hlt
      rw [em k hlt] at cx
      have wZ : (Lit.int .i64 (rowZ up n3 xs k)).wf = true := wCz _
      have ks := fun W => QdO (rowZ up n3 xs k) wZ W
      obtain ⟨Z, eZ⟩ : ∃ Z, rowZ up n3 xs k = Z := ⟨_, rfl⟩
      rw [eZ] at cx ks
      obtain ⟨E, eE⟩ : ∃ E, siluZ Z = E := ⟨_, rfl⟩
      rw [eE] at ks
      have Ev : Hid (E = siluZ (rowZ up n3 xs k)) := by show E = _; rw [eZ, eE]
      have hsz := hbr.size
      clear eZ eE wZ em
      go_wp2_with (first
        | (go_at_call 129; refine (ks _).mono ?_; rintro e W2 ⟨rfl, hb2⟩
           have ho2 := oBe ho hb2
           have hbr2 := bTn hbr hb2
           have hsz2 := hbr2.size
           clear hb2)
        | (at_builtin; refine wpList_append_own _ rfl (.tmp 30) (.tmp 36) 34 rfl w1.heap.size 2 i0 (I4 0) 1 8 Tryz.underlying34 hi hz0 hz1 hz2 rfl (by decide) _ _ _ rfl (World.ownsRow.alloc (w := W2) ho2 _) ⟨_, 0, none⟩ 1 1 [I4 E] rfl rfl (Qai _ _ _) (oOc _ _) (by unfold maxLen; omega) (by omega) (by simp; omega) ?_; intro v' w1' ho' hg _))
      go_roundw
      case rel => exact ⟨k + 1, by omega, by go_num, aSt (wr := W2) hsz2 Ev.out hbr2 ho2 ho' hg⟩
      case measure => simp [intOf]; omega
    · have e : k = R := by omega
      subst e
      have fin := oRe (zs := hidL up xs) ho Eh.out.1 (fun z hz => by
        obtain ⟨y, _, rfl⟩ := List.mem_map.1 hz
        exact wCz _) (fun j hj => by rw [QaP _ _ _ _ hj, Eh.out.2 j hj])
      obtain ⟨al, cl, rfl, hr2⟩ := fin
      clear ho em
      have hbw := bTn hb1 hbr
      have kd := QbU a1 n1 c1 down (n3 : Int) al k cl (hidL up xs) wr (h1.below hbw) l1 hr2 f2 b1
      have en : n1 / k = n3 := by have := (Qbn f2).2.2; omega
      rw [en] at kd
      have hsw := hbw.size
      clear f2 en
      go_wp2_with (go_at_call 51; refine kd.mono ?_; rintro e w2 ⟨⟨a2, c2, rfl, hr2, fr2⟩, hb2⟩)
      have fr : Hid (∀ x, a2 = some x → w.heap.size ≤ x.block) := fun x hx => Nat.le_trans hsw (fr2 x hx)
      clear fr2
      go_ret2
      exact ⟨⟨_, _, rfl, hr2, fr.out⟩, bTn hbw hb2⟩
theorem QhX (a0 : Option Addr) (n0 c0 : Nat) (up : List Int) (a1 : Option Addr) (n1 c1 : Nat) (down : List Int) (h : Int) (a3 : Option Addr) (n3 c3 : Nat) (xs : List Int) (w : World) (h0 : Reads .i8 w a0 n0 up) (l0 : n0 ≤ c0) (h1 : Reads .i8 w a1 n1 down) (l1 : n1 ≤ c1) (h3 : Reads .i64 w a3 n3 xs) (wh : (Lit.int .i64 h).wf = true) (b0 : n0 * 8 ≤ 140737488355328) (b1 : n1 * 8 ≤ 140737488355328) (f1 : fitB n0 h n3 = true) (f2 : fitB down.length (xs.length : Int) (hidL up xs).length = false) :
    Calls Tryz.prog 110 #[.slice a0 n0 c0, .slice a1 n1 c1, I4 h, .slice a3 n3 c3] w fun e w' => e = .returned (.tuple #[.slice none 0 0, I4 21]) ∧ Bw w w' := by
  obtain ⟨i0, hi, hz0, hz1, hz2⟩ := info_parts QaT
  have ku := QbU a0 n0 c0 up h a3 n3 c3 xs w h0 l0 h3 f1 b0
  have hle := Nat.div_le_self n0 n3
  have hm3 := h3.max
  have hm1 := h1.max
  obtain ⟨R, eR⟩ : ∃ R, n0 / n3 = R := ⟨_, rfl⟩
  have eh : (hidL up xs).length = R := by rw [Qb8, h0.len, h3.len, eR]
  have em : ∀ j, j < R → (matL up xs).getD j 0 = rowZ up n3 xs j := fun j hj => by
    rw [Qij _ _ _ (by rw [h0.len, h3.len, eR]; exact hj), h3.len]
  rw [eR] at ku hle
  rw [h1.len, h3.len, eh] at f2
  have ha : ∀ j, j < R → (hidL up xs).getD j 0 = siluZ (rowZ up n3 xs j) := fun j hj => by
    rw [Qil _ _ _ (by rw [h0.len, h3.len, eR]; exact hj), h3.len]
  have Eh := hdn (And.intro eh ha)
  clear eR f1 eh ha
  have hRm : R ≤ 9223372036854775807 := by omega
  go_enter Tryz.func110, Tryz.ntmps110
  go_wp2_with (go_at_call 51; refine ku.mono ?_; rintro e w1 ⟨⟨am, cm, rfl, hr1, -⟩, hb1⟩)
  clear ku
  go_loopw [12, 13] (fun v i wr => ∃ k : Nat, k ≤ R ∧ i = I4 k ∧ Bw w1 wr ∧ wr.ownsRow w1.heap.size 2 1 v k (gath (fun j => siluZ (rowZ up n3 xs j)) .i64 k)) (fun _ i _ => R - (intOf i).toNat)
  case atStart => exact ⟨0, Nat.zero_le _, rfl, Below.refl _ _, World.ownsRow_nil _ _ _ _⟩
  case round =>
    obtain ⟨k, hk, rfl, hbr, ho⟩ := hrel
    by_cases hlt : k < R
    · obtain ⟨x, rfl⟩ := hr1.some_ (by omega)
      have cx := (hr1.below hbr).cell x rfl k hlt
      rw [em k hlt] at cx
      have wZ : (Lit.int .i64 (rowZ up n3 xs k)).wf = true := wCz _
      have ks := fun W => QdO (rowZ up n3 xs k) wZ W
      obtain ⟨Z, eZ⟩ : ∃ Z, rowZ up n3 xs k = Z := ⟨_, rfl⟩
      rw [eZ] at cx ks
      obtain ⟨E, eE⟩ : ∃ E, siluZ Z = E := ⟨_, rfl⟩
      rw [eE] at ks
      have Ev : Hid (E = siluZ (rowZ up n3 xs k)) := by show E = _; rw [eZ, eE]
      have hsz := hbr.size
      clear eZ eE wZ em
      go_wp2_with (first
        | (go_at_call 129; refine (ks _).mono ?_; rintro e W2 ⟨rfl, hb2⟩
           have ho2 := oBe ho hb2
           have hbr2 := bTn hbr hb2
           have hsz2 := hbr2.size
           clear hb2)
        | (at_builtin; refine wpList_append_own _ rfl (.tmp 30) (.tmp 36) 34 rfl w1.heap.size 2 i0 (I4 0) 1 8 Tryz.underlying34 hi hz0 hz1 hz2 rfl (by decide) _ _ _ rfl (World.ownsRow.alloc (w := W2) ho2 _) ⟨_, 0, none⟩ 1 1 [I4 E] rfl rfl (Qai _ _ _) (oOc _ _) (by unfold maxLen; omega) (by omega) (by simp; omega) ?_; intro v' w1' ho' hg _))
      go_roundw
      case rel => exact ⟨k + 1, by omega, by go_num, aSt (wr := W2) hsz2 Ev.out hbr2 ho2 ho' hg⟩
      case measure => simp [intOf]; omega
    · have e : k = R := by omega
      subst e
      have fin := oRe (zs := hidL up xs) ho Eh.out.1 (fun z hz => by
        obtain ⟨y, _, rfl⟩ := List.mem_map.1 hz
        exact wCz _) (fun j hj => by rw [QaP _ _ _ _ hj, Eh.out.2 j hj])
      obtain ⟨al, cl, rfl, hr2⟩ := fin
      clear ho em
      have hbw := bTn hb1 hbr
      have kd := QeF a1 n1 c1 (n3 : Int) al k cl wr hm1 hRm (WalkArith.wf_i64 ⟨by omega, by omega⟩) f2
      go_wp2_with (go_at_call 51; refine kd.mono ?_; rintro e w2 ⟨rfl, hq⟩; obtain rfl := hq.symm)
      go_ret2
      exact ⟨rfl, hbw⟩
theorem QgD (a0:Option Addr)(n0 c0:Nat)(up:List Int)(a1:Option Addr)(n1 c1:Nat)(down:List Int)(h:Int)(a3:Option Addr)(n3 c3:Nat)(xs:List Int)(w:World)(h0:Reads .i8 w a0 n0 up)(l0:n0≤c0)(h1:Reads .i8 w a1 n1 down)(l1:n1≤c1)(h3:Reads .i64 w a3 n3 xs)(wh:(Lit.int .i64 h).wf=true)(b0:n0*8≤140737488355328)(b1:n1*8≤140737488355328)(f1:fitB n0 h n3=false) :
  Calls Tryz.prog 110 #[.slice a0 n0 c0,.slice a1 n1 c1,I4 h,.slice a3 n3 c3] w fun e w'=>e=.returned (.tuple #[.slice none 0 0,I4 21])∧Bw w w':=by
 have ku:=QeF a0 n0 c0 h a3 n3 c3 w h0.max h3.max wh f1
 go_enter Tryz.func110,Tryz.ntmps110
 go_wp2_with (go_at_call 51;refine ku.mono ?_;rintro e w2 ⟨rfl,hq⟩;obtain rfl:=hq.symm)
 go_ret2
 exact⟨rfl,Below.refl _ _⟩
theorem QkQ (a0:Option Addr)(n0 c0:Nat)(up:List Int)(a1:Option Addr)(n1 c1:Nat)(down:List Int)(h:Int)(a3:Option Addr)(n3 c3:Nat)(xs:List Int)(w:World)(h0:Reads .i8 w a0 n0 up)(l0:n0≤c0)(h1:Reads .i8 w a1 n1 down)(l1:n1≤c1)(h3:Reads .i64 w a3 n3 xs)(wh:(Lit.int .i64 h).wf=true)(b0:n0*8≤140737488355328)(b1:n1*8≤140737488355328)(hf:oneB up down h xs=false) :
  Calls Tryz.prog 110 #[.slice a0 n0 c0,.slice a1 n1 c1,I4 h,.slice a3 n3 c3] w fun e w'=>e=.returned (.tuple #[.slice none 0 0,I4 21])∧Bw w w':=by
 have hf':(fitB up.length h xs.length && fitB down.length (xs.length:Int) (hidL up xs).length)=false:=hf
 rw[h0.len,h3.len] at hf'
 cases f1:fitB n0 h n3 with
 | false=>exact QgD a0 n0 c0 up a1 n1 c1 down h a3 n3 c3 xs w h0 l0 h1 l1 h3 wh b0 b1 f1
 | true =>
  rw[f1,Bool.true_and] at hf'
  exact QhX a0 n0 c0 up a1 n1 c1 down h a3 n3 c3 xs w h0 l0 h1 l1 h3 wh b0 b1 f1 (by rw[h3.len];exact hf')
theorem QhY (a0:Option Addr)(n0 c0:Nat)(up:List Int)(a1:Option Addr)(n1 c1:Nat)(down:List Int)(h:Int)(a3:Option Addr)(n3 c3:Nat)(xs:List Int)(w:World)(h0:Reads .i8 w a0 n0 up)(l0:n0≤c0)(h1:Reads .i8 w a1 n1 down)(l1:n1≤c1)(h3:Reads .i64 w a3 n3 xs)(wh:(Lit.int .i64 h).wf=true)(b0:n0*8≤140737488355328)(b1:n1*8≤140737488355328) :
  Calls Tryz.prog 110 #[.slice a0 n0 c0,.slice a1 n1 c1,I4 h,.slice a3 n3 c3] w fun e w'=>(∃ a m c,e=.returned (.tuple #[.slice a m c,I4 (if oneB up down h xs then 0 else 21)])∧Reads .i64 w' a m (if oneB up down h xs then oneL up down xs else []))∧Bw w w':=by
 cases hf:oneB up down h xs with
 | true=>exact (Qfn a0 n0 c0 up a1 n1 c1 down h a3 n3 c3 xs w h0 l0 h1 l1 h3 wh b0 b1 hf).mono fun e w' ⟨⟨a,c,he,hr,_⟩,hb⟩=>⟨⟨a,n3,c,he,hr⟩,hb⟩
 | false=>exact (QkQ a0 n0 c0 up a1 n1 c1 down h a3 n3 c3 xs w h0 l0 h1 l1 h3 wh b0 b1 hf).mono fun e w' ⟨he,hb⟩=>⟨⟨none,0,0,he,Reads.nil _ _⟩,hb⟩
theorem Qkg (b:Int)(z:List Int)(hb:b≤-2147483648)(n:Nat)(hn:0<n):topZ b z n=topZ (-2147483648) z n:=by
 induction n with
 | zero=>omega
 | succ n ih =>
  show max (topZ b z n) (cZ (z.getD n 0))=max (topZ (-2147483648) z n) (cZ (z.getD n 0))
  have c:=cZb (z.getD n 0)
  by_cases h:0<n
  ·rw[ih h]
  ·obtain rfl:n=0:=by omega
   show max b _=max (-2147483648) _
   omega
theorem Qkr (z:List Int)(n:Nat)(b:Int)(hb:b≤-2147483648):(List.range n).map (QaW z (topZ b z n) (sumE z (topZ b z n) n))=QbE z n:=by
 by_cases h:0<n
 ·unfold QbE;rw[Qkg b z hb n h]
 ·obtain rfl:n=0:=by omega
  rfl
theorem QdN (a0 : Option Addr) (n c0 : Nat) (zs : List Int) (w : World) (h0 : Reads .i64 w a0 n zs) (hb : n * 8 ≤ 140737488355328) :
    Calls Tryz.prog 128 #[.slice a0 n c0] w fun e w' => (∃ a c, e = .returned (.slice a n c) ∧ Reads .i64 w' a n (QbE zs n)) ∧ Bw w w' := by
  obtain ⟨i0, hi, hz0, hz1, hz2⟩ := info_parts QaT
  have hm := h0.max
  go_enter Tryz.func128, Tryz.ntmps128
  go_wp2
  go_loopw [3, 4] (fun s i wr => ∃ k : Nat, k ≤ n ∧ i = I4 k ∧ s = I4 (topZ (-4611686018427387904) zs k) ∧ wr = w) (fun _ i _ => n - (intOf i).toNat)
  case atStart => exact ⟨0, Nat.zero_le _, rfl, rfl, rfl⟩
  case round =>
    obtain ⟨k, hk, rfl, rfl, hw⟩ := hrel
    subst hw
    by_cases hlt : k < n
    · obtain ⟨x, rfl⟩ := h0.some_ (by omega)
      have cx := h0.cell x rfl k hlt
      have es : topZ (-4611686018427387904) zs (k + 1) = max (topZ (-4611686018427387904) zs k) (cZ (zs.getD k 0)) := rfl
      obtain ⟨Z, eZ⟩ : ∃ Z, zs.getD k 0 = Z := ⟨_, rfl⟩
      obtain ⟨S, eS⟩ : ∃ S, topZ (-4611686018427387904) zs k = S := ⟨_, rfl⟩
      rw [eZ] at cx es
      rw [eS] at es ⊢
      obtain ⟨C, eC⟩ : ∃ C, cZ Z = C := ⟨_, rfl⟩
      have kc := fun W => rCc Z W
      rw [eC] at es kc
      have Es : Hid (topZ (-4611686018427387904) zs (k + 1) = max S C) := es
      clear eZ eS es eC
      rcases Int.lt_trichotomy S C with h | h | h
      · go_wp2_with (go_at_call 73; refine (kc _).mono ?_; rintro e w' ⟨rfl, h⟩; obtain rfl := h.symm)
        all_goals
          go_roundw
          case rel => exact ⟨k + 1, by omega, by go_num, by rw [Es.out]; congr 1; omega, trivial⟩
          case measure => simp [intOf]; omega
      · subst h
        go_wp2_with (go_at_call 73; refine (kc _).mono ?_; rintro e w' ⟨rfl, h⟩; obtain rfl := h.symm)
        all_goals
          go_roundw
          case rel => exact ⟨k + 1, by omega, by go_num, by rw [Es.out]; congr 1; omega, trivial⟩
          case measure => simp [intOf]; omega
      · go_wp2_with (go_at_call 73; refine (kc _).mono ?_; rintro e w' ⟨rfl, h⟩; obtain rfl := h.symm)
        all_goals
          go_roundw
          case rel => exact ⟨k + 1, by omega, by go_num, by rw [Es.out]; congr 1; omega, trivial⟩
          case measure => simp [intOf]; omega
    · have e : k = n := by omega
      subst e
      rename World => w
      have tb := Qel (-4611686018427387904) zs (by decide) k
      have fine := Qkr zs k (-4611686018427387904) (by decide)
      obtain ⟨T, eT⟩ : ∃ T, topZ (-4611686018427387904) zs k = T := ⟨_, rfl⟩
      rw [eT] at tb fine ⊢
      have Fin : Hid ((List.range k).map (QaW zs T (sumE zs T k)) = QbE zs k) := fine
      clear eT fine
      obtain ⟨tb1, tb2, -⟩ := tb
      go_wp2
      go_loopw [5, 6, 7] (fun s v i wr => ∃ j : Nat, j ≤ k ∧ i = I4 j ∧ s = I4 (sumE zs T j) ∧ Bw w wr ∧ wr.ownsRow w.heap.size 2 1 v j (gath (powE zs T) .i64 j)) (fun _ _ i _ => k - (intOf i).toNat)
      case atStart => exact ⟨0, Nat.zero_le _, rfl, rfl, Below.refl _ _, World.ownsRow_nil _ _ _ _⟩
      case round =>
        obtain ⟨j, hj, rfl, rfl, hbr, ho⟩ := hrel
        by_cases hlt : j < k
        · have hr := h0.below hbr
          obtain ⟨x, rfl⟩ := h0.some_ (by omega)
          have cx := hr.cell x rfl j hlt
          have tb0 := tb2 (by omega)
          have sb := Qb0 zs T j
          have pb := Qa6 zs T j
          have cb := cZb (zs.getD j 0)
          have kc := fun W => rCc (zs.getD j 0) W
          have ke := fun (h : (Lit.int .i64 (cZ (zs.getD j 0) - T)).wf = true) W => refExp_call (cZ (zs.getD j 0) - T) h W
          have ep : expZ (cZ (zs.getD j 0) - T) = powE zs T j := rfl
          have es : sumE zs T (j + 1) = sumE zs T j + powE zs T j := rfl
          rw [ep] at ke
          obtain ⟨E, eE⟩ : ∃ E, powE zs T j = E := ⟨_, rfl⟩
          obtain ⟨S, eS⟩ : ∃ S, sumE zs T j = S := ⟨_, rfl⟩
          obtain ⟨C, eC⟩ : ∃ C, cZ (zs.getD j 0) = C := ⟨_, rfl⟩
          rw [eC] at cb kc ke
          obtain ⟨X, eX⟩ : ∃ X, zs.getD j 0 = X := ⟨_, rfl⟩
          rw [eX] at cx kc
          rw [eE] at pb es ke
          rw [eS] at sb es ⊢
          have Ez : Hid (E = powE zs T j) := eE.symm
          have Es : Hid (sumE zs T (j + 1) = S + E) := es
          obtain ⟨s0, s1⟩ := sb
          obtain ⟨p0, p1⟩ := pb
          obtain ⟨q0, q1⟩ := cb
          have wc : (Lit.int .i64 (C - T)).wf = true := WalkArith.wf_i64 ⟨by omega, by omega⟩
          clear eE eS eC eX ep es hr tb2
          go_wp2_with (first
            | (go_at_call 73; refine (kc _).mono ?_; rintro e w' ⟨rfl, h⟩; obtain rfl := h.symm)
            | (go_at_call 142; refine (ke wc _).mono ?_; rintro e W2 ⟨rfl, hb2⟩
               have ho2 := oBe ho hb2
               have hbr2 := bTn hbr hb2
               have hsz2 := hbr2.size
               clear ho hbr hb2)
            | (at_builtin; refine wpList_append_own _ rfl (.tmp 38) (.tmp 40) 34 rfl w.heap.size 2 i0 (I4 0) 1 8 Tryz.underlying34 hi hz0 hz1 hz2 rfl (by decide) _ _ _ rfl (ho2.alloc _) ⟨_, 0, none⟩ 1 1 [I4 E] rfl rfl (Qai _ _ _) (oOc _ _) (by unfold maxLen; omega) (by omega) (by simp; omega) ?_; intro v' w1 ho' hg _))
          go_roundw
          case rel => exact ⟨j + 1, by omega, by go_num, by rw [Es.out], aSt hsz2 Ez.out hbr2 ho2 ho' hg⟩
          case measure => simp [intOf]; omega
        · have e : j = k := by omega
          subst e
          have sb := Qb0 zs T j
          obtain ⟨pe, ce, rfl, re⟩ := oRe (zs := (List.range j).map (powE zs T)) ho (by simp) (fun z hz => by obtain ⟨y, _, rfl⟩ := List.mem_map.1 hz; have := Qa6 zs T y; exact WalkArith.wf_i64 ⟨by omega, by omega⟩) (fun i hi => by rw [QaP _ _ _ _ hi]; simp [hi])
          clear ho
          rename World => W2
          obtain ⟨S, eS⟩ : ∃ S, sumE zs T j = S := ⟨_, rfl⟩
          rw [eS] at sb ⊢
          have ES : Hid (sumE zs T j = S) := eS
          clear eS
          have wS : (Lit.int .i64 S).wf = true := WalkArith.wf_i64 ⟨by omega, by omega⟩
          go_wp2
          go_loopw [9, 10] (fun v i wr => ∃ l : Nat, l ≤ j ∧ i = I4 l ∧ Bw W2 wr ∧ wr.ownsRow W2.heap.size 2 1 v l (gath (QaW zs T S) .i64 l)) (fun _ i _ => j - (intOf i).toNat)
          case atStart => exact ⟨0, Nat.zero_le _, rfl, Below.refl _ _, World.ownsRow_nil _ _ _ _⟩
          case round =>
            obtain ⟨l, hl, rfl, hbl, ho⟩ := hrel
            by_cases hlt : l < j
            · have hr := re.below hbl
              obtain ⟨x, rfl⟩ := re.some_ (by omega)
              have cx := hr.cell x rfl l hlt
              rw [show ((List.range j).map (powE zs T)).getD l 0 = powE zs T l by simp [List.getD, hlt]] at cx
              have hsz := hbl.size
              have pb := Qa6 zs T l
              have kd := fun (w' : (Lit.int .i64 (powE zs T l)).wf = true) W => refDiv_call (powE zs T l) S w' wS W
              have ef : divZ (powE zs T l) S = QaW zs T S l := rfl
              rw [ef] at kd
              obtain ⟨E, eE⟩ : ∃ E, powE zs T l = E := ⟨_, rfl⟩
              obtain ⟨G, eG⟩ : ∃ G, QaW zs T S l = G := ⟨_, rfl⟩
              rw [eE] at cx pb kd
              rw [eG] at kd
              have Ez : Hid (G = QaW zs T S l) := eG.symm
              have wE : (Lit.int .i64 E).wf = true := WalkArith.wf_i64 ⟨by omega, by omega⟩
              clear eE eG ef hr
              go_wp2_with (first
                | (go_at_call 143; refine (kd wE _).mono ?_; rintro e w' ⟨rfl, h⟩; obtain rfl := h.symm)
                | (at_builtin; refine wpList_append_own _ rfl (.tmp 51) (.tmp 58) 34 rfl W2.heap.size 2 i0 (I4 0) 1 8 Tryz.underlying34 hi hz0 hz1 hz2 rfl (by decide) _ _ _ rfl (ho.alloc _) ⟨_, 0, none⟩ 1 1 [I4 G] rfl rfl (Qai _ _ _) (oOc _ _) (by unfold maxLen; omega) (by omega) (by simp; omega) ?_; intro v' w1 ho' hg _))
              go_roundw
              case rel => exact ⟨l + 1, by omega, by go_num, aSt hsz Ez.out hbl ho ho' hg⟩
              case measure => simp [intOf]; omega
            · have e : l = j := by omega
              subst e
              have fin := oRe (zs := QbE zs l) ho (by rw [← Fin.out]; simp) (fun z hz => by rw [← Fin.out] at hz; obtain ⟨y, _, rfl⟩ := List.mem_map.1 hz; exact Qj9 _ _) (fun i hi => by rw [QaP _ _ _ _ hi, ← Fin.out, ES.out]; simp [hi])
              obtain ⟨a, c, rfl, hr⟩ := fin
              have hend := bTn hbr hbl
              clear ho hbl hbr re
              go_wp2
              go_ret
              exact ⟨⟨_, _, rfl, hr⟩, hend⟩
end Go.Proofs.YthliomlmhfjhnaaGreat

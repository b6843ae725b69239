/- Texts put together. -/
import Derived.Test.YtbkjhfmehemgpaaGreatFb0
import Derived.Test.YtbkjhfmehemgpaaGreatFb1
import Derived.Test.YtbkjhfmehemgpaaGreatFb3
namespace Go.Proofs.YtbkjhfmehemgpaaGreat
set_option maxRecDepth 20000
set_option maxHeartbeats 16000000
open Go.ChangeShapes Go.WideShapes Go.ChangeAt Go.RowKit
set_option linter.unusedVariables false
set_option linter.unusedSimpArgs false
def tZ (x:Int):Int:=-mulZ (min (cZ x) 0) 94548
def expZ (x:Int):Int:=if 16<tZ x/65536 then 0 else betweenZ (tZ x%65536)/2 ^ (tZ x/65536).toNat
theorem clampZ_nonpos (x:Int)(h:x≤0):cZ x≤0:=by
 unfold cZ
 repeat' split
 all_goals omega
theorem mulZ_sixteen (a b:Int):mulZ a b=cZ (if cZ a*cZ b<0 then -((-(cZ a*cZ b)/32768+1)/2) else (cZ a*cZ b/32768+1)/2):=by
 have ba:=cZb a
 have bb:=cZb b
 have p1:cZ a*cZ b≤4611686018427387904∧-4611686018427387904≤cZ a*cZ b:=by
  generalize cZ a=A at *
  generalize cZ b=B at *
  have h:=Int.natAbs_mul A B
  have h1:A.natAbs≤2147483648:=by omega
  have h2:B.natAbs≤2147483648:=by omega
  have h3:=Nat.mul_le_mul h1 h2
  omega
 have e:wrap64 (cZ a*cZ b)=cZ a*cZ b:=by
  rw[wrap64_eq];omega
 unfold mulZ
 rw[e]
 generalize cZ a*cZ b=M at *
 unfold shiftZ shN
 rw[if_neg (by decide)]
 rfl
theorem tZ_bounds (x:Int):0≤tZ x∧tZ x≤2147483648:=by
 have c:=cZb (if cZ (min (cZ x) 0)*cZ 94548<0 then -((-(cZ (min (cZ x) 0)*cZ 94548)/32768+1)/2) else (cZ (min (cZ x) 0)*cZ 94548/32768+1)/2)
 unfold tZ
 rw[mulZ_sixteen]
 have h:=clampZ_nonpos (min (cZ x) 0) (by omega)
 have e:cZ 94548=94548:=by decide
 rw[e] at c ⊢
 refine⟨?_,by omega⟩
 generalize cZ (min (cZ x) 0)=A at *
 have:=clampZ_nonpos (if A*94548<0 then -((-(A*94548)/32768+1)/2) else (A*94548/32768+1)/2) (by split<;>omega)
 omega
theorem betweenZ_bounds (f:Int)(h0:0≤f)(h1:f<65536):32768≤betweenZ f∧betweenZ f≤65536:=by
 have s:=powZ_steps (f/4096) (by omega) (by omega)
 have m:=prod_bounds (powZ (f/4096)-powZ (f/4096+1)) (f%4096) s.1 s.2.1 (by omega) (by omega)
 unfold betweenZ
 omega
theorem wf_i64_of {n:Int}(h0:-9223372036854775808≤n)(h1:n≤9223372036854775807):(Lit.int .i64 n).wf=true:=WalkArith.wf_i64 ⟨h0,h1⟩
theorem exp_call (x:Int)(w:World) :
  Calls Tryz.prog 166 #[.int .i64 x] w fun e w'=>e=.returned (.int .i64 (expZ x))∧Below w.heap.size w w':=by
 have tb:=tZ_bounds x
 have cb:=cZb x
 have m:mulZ (min (cZ x) 0) 94548 = -tZ x:=by unfold tZ;omega
 have fb:=betweenZ_bounds (tZ x%65536) (by omega) (by omega)
 unfold expZ
 obtain⟨t,et⟩:∃ t,tZ x=t:=⟨_,rfl⟩
 obtain⟨c,ec⟩:∃ c,cZ x=c:=⟨_,rfl⟩
 rw[et] at tb m fb ⊢
 rw[ec] at cb m
 have wc:(Lit.int .i64 c).wf=true:=wf_i64_of (by omega) (by omega)
 obtain⟨t0,t1⟩:=tb
 obtain⟨c0,c1⟩:=cb
 obtain⟨f0,f1⟩:=fb
 clear et
 by_cases k:16<t/65536
 ·rw[if_pos k]
  rcases Int.lt_trichotomy c 0 with h|h|h
  ·have e:min c 0=c:=by omega
   rw[e] at m;clear e
   go_enter Tryz.func166,Tryz.ntmps166
   go_wp2_with (first|(go_at_call 79;refine (cCa _ _).mono ?_;rintro e w' ⟨rfl,rfl⟩)|(go_at_call 185;refine (mul_call _ _ (by first|assumption|decide) (by decide) _).mono ?_;rintro e w' ⟨rfl,rfl⟩))
   all_goals go_ret
   all_goals exact⟨rfl,Below.refl _ _⟩
  ·have e:min c 0=0:=by omega
   rw[e] at m;clear e;subst h
   go_enter Tryz.func166,Tryz.ntmps166
   go_wp2_with (first|(go_at_call 79;refine (cCa _ _).mono ?_;rintro e w' ⟨rfl,rfl⟩)|(go_at_call 185;refine (mul_call _ _ (by first|assumption|decide) (by decide) _).mono ?_;rintro e w' ⟨rfl,rfl⟩))
   all_goals go_ret
   all_goals exact⟨rfl,Below.refl _ _⟩
  ·have e:min c 0=0:=by omega
   rw[e] at m;clear e
   go_enter Tryz.func166,Tryz.ntmps166
   go_wp2_with (first|(go_at_call 79;refine (cCa _ _).mono ?_;rintro e w' ⟨rfl,rfl⟩)|(go_at_call 185;refine (mul_call _ _ (by first|assumption|decide) (by decide) _).mono ?_;rintro e w' ⟨rfl,rfl⟩))
   all_goals go_ret
   all_goals exact⟨rfl,Below.refl _ _⟩
 ·rw[if_neg k]
  rcases Int.lt_trichotomy c 0 with h|h|h
  ·have e:min c 0=c:=by omega
   rw[e] at m;clear e
   go_enter Tryz.func166,Tryz.ntmps166
   go_wp2_with (first|(go_at_call 79;refine (cCa _ _).mono ?_;rintro e w' ⟨rfl,rfl⟩)|(go_at_call 185;refine (mul_call _ _ (by first|assumption|decide) (by decide) _).mono ?_;rintro e w' ⟨rfl,rfl⟩)|(go_at_call 196;refine (between_call _ (by omega) (by omega) _).mono ?_;rintro e w' ⟨rfl,hg⟩))
   all_goals go_ret
   all_goals exact⟨rfl,by assumption⟩
  ·have e:min c 0=0:=by omega
   rw[e] at m;clear e;subst h
   go_enter Tryz.func166,Tryz.ntmps166
   go_wp2_with (first|(go_at_call 79;refine (cCa _ _).mono ?_;rintro e w' ⟨rfl,rfl⟩)|(go_at_call 185;refine (mul_call _ _ (by first|assumption|decide) (by decide) _).mono ?_;rintro e w' ⟨rfl,rfl⟩)|(go_at_call 196;refine (between_call _ (by omega) (by omega) _).mono ?_;rintro e w' ⟨rfl,hg⟩))
   all_goals go_ret
   all_goals exact⟨rfl,by assumption⟩
  ·have e:min c 0=0:=by omega
   rw[e] at m;clear e
   go_enter Tryz.func166,Tryz.ntmps166
   go_wp2_with (first|(go_at_call 79;refine (cCa _ _).mono ?_;rintro e w' ⟨rfl,rfl⟩)|(go_at_call 185;refine (mul_call _ _ (by first|assumption|decide) (by decide) _).mono ?_;rintro e w' ⟨rfl,rfl⟩)|(go_at_call 196;refine (between_call _ (by omega) (by omega) _).mono ?_;rintro e w' ⟨rfl,hg⟩))
   all_goals go_ret
   all_goals exact⟨rfl,by assumption⟩
theorem expZ_bounds (x:Int):0≤expZ x∧expZ x≤65536:=by
 have tb:=tZ_bounds x
 have fb:=betweenZ_bounds (tZ x%65536) (by omega) (by omega)
 unfold expZ
 split
 ·omega
 ·have d:=div_bounds (betweenZ (tZ x%65536)) (tZ x/65536).toNat (by omega)
  omega
def upZ (x:Int):Int:=divZ 65536 (65536+expZ (-x))
def sigZ (x:Int):Int:=if cZ x<0 then 65536-upZ (-cZ x) else upZ (cZ x)
theorem upZ_eq (x:Int):upZ x=4294967296/(65536+expZ (-x)):=by
 have eb:=expZ_bounds (-x)
 unfold upZ
 obtain⟨v,ev⟩:∃ v,expZ (-x)=v:=⟨_,rfl⟩
 rw[ev] at eb ⊢
 obtain⟨d,ed⟩:∃ d,65536+v=d:=⟨_,rfl⟩
 rw[ed]
 have d0:65536≤d:=by omega
 have d1:d≤131072:=by omega
 have e1:cZ d=d:=by unfold cZ;(repeat' split);all_goals omega
 have e2:cZ 65536=65536:=by decide
 have q0:0≤4294967296/d:=Int.ediv_nonneg (by decide) (by omega)
 have q1:4294967296/d≤65536:=by
  have:4294967296/d<65537:=Int.ediv_lt_of_lt_mul (by omega) (by omega)
  omega
 unfold divZ
 rw[e1,e2,if_neg (by omega),Int.tdiv_eq_ediv_of_nonneg (by decide)]
 show cZ (wrap64 (4294967296/d))=4294967296/d
 generalize 4294967296/d=Q at *
 rw[wrap64_eq]
 unfold cZ
 repeat' split
 all_goals omega
theorem upZ_bounds (x:Int):32768≤upZ x∧upZ x≤65536:=by
 rw[upZ_eq]
 have eb:=expZ_bounds (-x)
 generalize expZ (-x)=v at *
 refine⟨?_,?_⟩
 ·exact Int.le_ediv_of_mul_le (by omega) (by omega)
 ·have:4294967296/(65536+v)<65537:=Int.ediv_lt_of_lt_mul (by omega) (by omega)
  omega
theorem sigZ_bounds (x:Int):0≤sigZ x∧sigZ x≤65536:=by
 have b1:=upZ_bounds (-cZ x)
 have b2:=upZ_bounds (cZ x)
 unfold sigZ
 split<;>omega
def siluZ (x:Int):Int:=mulZ x (sigZ x)
def topZ (b:Int)(z:List Int):Nat→Int
 | 0=>b
 | k+1=>max (topZ b z k) (cZ (z.getD k 0))
theorem oBe {w w':World}{B:Nat}{e:TypeId}{v:Value}{n:Nat}{xs:List Value}(h:w.ownsRow B e 1 v n xs)(hb:Below w.heap.size w w'):w'.ownsRow B e 1 v n xs :=
 h.kept (row:=none) ⟨hb.os,hb.tape,hb.output,hb.size,fun k hk _=>hb.block k hk⟩ (by
  cases v.ownBlock with
  | none=>exact .inl rfl
  | some g=>exact .inr (fun e=>by cases e))
theorem greatest_call (a0:Option Addr)(n c0:Nat)(zs:List Int)(w:World)(h0:Reads .i64 w a0 n zs) :
  Calls Tryz.prog 165 #[.slice a0 n c0] w fun e w'=>e=.returned (.int .i64 (topZ (-2147483648) zs n))∧w'=w:=by
 have hm:=h0.max
 go_enter Tryz.func165,Tryz.ntmps165
 go_wp2
 go_loopw [3,7] (fun s i wr=>∃ k:Nat,k≤n∧i=.int .i64 k∧s=.int .i64 (topZ (-2147483648) zs k)∧wr=w) (fun _ i _=>n-(intOf i).toNat)
 case atStart=>exact⟨0,Nat.zero_le _,rfl,rfl,rfl⟩
 case round =>
  obtain⟨k,hk,rfl,rfl,hw⟩:=hrel
  subst hw
  by_cases hlt:k<n
  ·obtain⟨x,rfl⟩:=h0.some_ (by omega)
   have cx:=h0.cell x rfl k hlt
   have es:topZ (-2147483648) zs (k+1)=max (topZ (-2147483648) zs k) (cZ (zs.getD k 0)):=rfl
   obtain⟨Z,eZ⟩:∃ Z,zs.getD k 0=Z:=⟨_,rfl⟩
   obtain⟨S,eS⟩:∃ S,topZ (-2147483648) zs k=S:=⟨_,rfl⟩
   rw[eZ] at cx es
   rw[eS] at es ⊢
   obtain⟨C,eC⟩:∃ C,cZ Z=C:=⟨_,rfl⟩
   have kc:=fun W=>cCa Z W
   rw[eC] at es kc
   have Es:Hid (topZ (-2147483648) zs (k+1)=max S C):=es
   clear eZ eS es eC
   rcases Int.lt_trichotomy S C with h|h|h
   ·go_wp2_with (go_at_call 79;refine (kc _).mono ?_;rintro e w' ⟨rfl,h⟩;obtain rfl:=h.symm)
    all_goals
     go_roundw
     case rel=>exact⟨k+1,by omega,by go_num,by rw[Es.out];congr 1;omega,trivial⟩
     case measure=>simp[intOf];omega
   ·subst h
    go_wp2_with (go_at_call 79;refine (kc _).mono ?_;rintro e w' ⟨rfl,h⟩;obtain rfl:=h.symm)
    all_goals
     go_roundw
     case rel=>exact⟨k+1,by omega,by go_num,by rw[Es.out];congr 1;omega,trivial⟩
     case measure=>simp[intOf];omega
   ·go_wp2_with (go_at_call 79;refine (kc _).mono ?_;rintro e w' ⟨rfl,h⟩;obtain rfl:=h.symm)
    all_goals
     go_roundw
     case rel=>exact⟨k+1,by omega,by go_num,by rw[Es.out];congr 1;omega,trivial⟩
     case measure=>simp[intOf];omega
  ·have e:k=n:=by omega
   subst e
   go_wp2
   go_ret
   exact⟨rfl,rfl⟩
theorem topZ_bounds (b:Int)(z:List Int)(hb:b≤2147483647)(n:Nat):topZ b z n≤2147483647∧(0<n→-2147483648≤topZ b z n)∧b≤topZ b z n:=by
 induction n with
 | zero=>exact⟨hb,fun h=>by omega,Int.le_refl _⟩
 | succ n ih =>
  have c:=cZb (z.getD n 0)
  obtain⟨i1,i2,i3⟩:=ih
  show max (topZ b z n) (cZ (z.getD n 0))≤_∧(_→_≤max (topZ b z n) (cZ (z.getD n 0)))∧b≤max (topZ b z n) (cZ (z.getD n 0))
  clear i2
  omega
def powE (z:List Int)(t:Int)(j:Nat):Int:=expZ (cZ (z.getD j 0)-t)
def sumE (z:List Int)(t:Int):Nat→Int
 | 0=>0
 | k+1=>sumE z t k+powE z t k
theorem powE_bounds (z:List Int)(t:Int)(j:Nat):0≤powE z t j∧powE z t j≤65536:=expZ_bounds _
theorem sumE_bounds (z:List Int)(t:Int)(k:Nat):0≤sumE z t k∧sumE z t k≤65536*(k:Int):=by
 induction k with
 | zero=>exact⟨Int.le_refl _,by simp[sumE]⟩
 | succ k ih =>
  have p:=powE_bounds z t k
  show 0≤sumE z t k+powE z t k∧sumE z t k+powE z t k≤_
  omega
def shareF (z:List Int)(t S:Int)(j:Nat):Int:=divZ (powE z t j) S
theorem wf_divZ (a b:Int):(Lit.int .i64 (divZ a b)).wf=true:=by
 unfold divZ
 split
 ·refine WalkArith.wf_i64 ?_
  unfold noughtZ
  repeat' split
  all_goals omega
 ·exact wCz _
def softZ (z:List Int)(n:Nat):List Int:=(List.range n).map (shareF z (topZ (-2147483648) z n) (sumE z (topZ (-2147483648) z n) n))
theorem soft_call (a0 : Option Addr) (n c0 : Nat) (zs : List Int) (w : World) (h0 : Reads .i64 w a0 n zs) (hb : n * 8 ≤ 281474976710656) :
    Calls Tryz.prog 125 #[.slice a0 n c0] w fun e w' => (∃ a c, e = .returned (.slice a n c) ∧ Reads .i64 w' a n (softZ zs n)) ∧ Below w.heap.size w w' := by
  obtain ⟨i0, hi, hz0, hz1, hz2⟩ := info_parts info2
  have hm := h0.max
  have kg := greatest_call a0 n c0 zs w h0
  have tb := topZ_bounds (-2147483648) zs (by decide) n
  unfold softZ
  obtain ⟨T, eT⟩ : ∃ T, topZ (-2147483648) zs n = T := ⟨_, rfl⟩
  rw [eT] at kg tb ⊢
  clear eT
  obtain ⟨tb1, -, tb0⟩ := tb
  go_enter Tryz.func125, Tryz.ntmps125
  go_wp2_with (first
    | (go_at_call 165; refine kg.mono ?_; rintro e w' ⟨rfl, h⟩; obtain rfl := h.symm)
    | (at_make; refine wpList_make_full _ rfl (.tmp 11) (.tmp 11) 70 rfl w.heap.size 2 i0 (.int .i64 0) 1 Tryz.underlying70 hi hz0 hz1 .i64 .i64 _ _ n rfl rfl rfl rfl (by rw [hz2]; omega) (by unfold maxLen; omega) (Nat.le_refl _) ?_; intro w1 hown hgrow))
  have hbel : Below w.heap.size w w1 := (Below.refl _ _).grown hgrow (Nat.le_refl _) (fun k h => by cases h)
  go_wp2
  go_loopw [5, 15] (fun s i wr => ∃ k : Nat, k ≤ n ∧ i = .int .i64 k ∧ s = .int .i64 (sumE zs T k) ∧ Below w.heap.size w wr ∧ ∃ cs, wr.ownsRow w.heap.size 2 1 (.slice (some ⟨w.heap.size, 0, none⟩) n n) n cs ∧ ∀ j, j < k → cs[j]? = some (.int .i64 (powE zs T j))) (fun _ i _ => n - (intOf i).toNat)
  case atStart => exact ⟨0, Nat.zero_le _, rfl, rfl, hbel, _, hown, fun j hj => by omega⟩
  case round =>
    obtain ⟨k, hk, rfl, rfl, hbr, cs, ho, hcs⟩ := hrel
    by_cases hlt : k < n
    · have hr := h0.below hbr
      obtain ⟨x, rfl⟩ := h0.some_ (by omega)
      have cx := hr.cell x rfl k hlt
      have hlen := oLe ho
      have sb := sumE_bounds zs T k
      have pb := powE_bounds zs T k
      have ep : powE zs T k = expZ (cZ (zs.getD k 0) - T) := rfl
      have es : sumE zs T (k + 1) = sumE zs T k + powE zs T k := rfl
      have cb := cZb (zs.getD k 0)
      have kc := fun W => cCa (zs.getD k 0) W
      have ke := fun W => exp_call (cZ (zs.getD k 0) - T) W
      obtain ⟨E, eE⟩ : ∃ E, powE zs T k = E := ⟨_, rfl⟩
      obtain ⟨S, eS⟩ : ∃ S, sumE zs T k = S := ⟨_, rfl⟩
      rw [← ep] at ke
      rw [eE] at pb es ke
      rw [eS] at sb es ⊢
      have step := fun (W : World) (hs : W.ownsRow w.heap.size 2 1 (.slice (some ⟨w.heap.size, 0, none⟩) n n) n cs) => And.intro (hs.stored k (.int .i64 E)).1 (set_step (F := fun j => Value.int .i64 (powE zs T j)) hlen hlt (show Value.int .i64 E = .int .i64 (powE zs T k) by rw [eE]) hcs)
      obtain ⟨C, eC⟩ : ∃ C, cZ (zs.getD k 0) = C := ⟨_, rfl⟩
      rw [eC] at cb kc ke
      obtain ⟨X, eX⟩ : ∃ X, zs.getD k 0 = X := ⟨_, rfl⟩
      rw [eX] at cx kc
      obtain ⟨u, hu⟩ : ∃ u, cs[k]? = some u := ⟨cs[k], by simp [hlen, hlt]⟩
      obtain ⟨s0, s1⟩ := sb
      obtain ⟨p0, p1⟩ := pb
      obtain ⟨q0, q1⟩ := cb
      have Es : Hid (sumE zs T (k + 1) = S + E) := es
      clear es eE eS eC eX ep hr hown hgrow hbel hi hz0 hz1 hz2 kg
      go_wp2_with (first
        | (go_at_call 79; refine (kc _).mono ?_; rintro e w' ⟨rfl, h⟩; obtain rfl := h.symm)
        | (go_at_call 166; refine (ke _).mono ?_; rintro e W2 ⟨rfl, hb2⟩
           have ho2 := oBe ho hb2
           have cell2 : W2.cell? ⟨w.heap.size, k, none⟩ = some u := (ho2.cellAt k (by omega)).trans hu
           have froz2 := ho2.frozenAt k
           have st2 := step W2 ho2
           have cell3 : (W2.setCell ⟨w.heap.size, k, none⟩ (.int .i64 E)).cell? ⟨w.heap.size, k, none⟩ = some (.int .i64 E) := by
             rw [st2.1.cellAt k (by omega)]; simp [hlen, hlt]
           have R : Hid (Below w.heap.size w (W2.setCell ⟨w.heap.size, k, none⟩ (.int .i64 E)) ∧ ∃ cs', (W2.setCell ⟨w.heap.size, k, none⟩ (.int .i64 E)).ownsRow w.heap.size 2 1 (.slice (some ⟨w.heap.size, 0, none⟩) n n) n cs' ∧ ∀ j, j < k + 1 → cs'[j]? = some (.int .i64 (powE zs T j))) :=
             ⟨(bTn hbr hb2).setCell (Nat.le_refl _) _, _, st2.1, st2.2⟩
           clear ho2 st2 hb2))
      go_roundw
      case rel => exact ⟨k + 1, by omega, by go_num, by rw [Es.out], R.out⟩
      case measure => simp [intOf]; omega
    · have e : k = n := by omega
      subst e
      rename World => W1
      have sb := sumE_bounds zs T k
      obtain ⟨S, eS⟩ : ∃ S, sumE zs T k = S := ⟨_, rfl⟩
      have ES : Hid (sumE zs T k = S) := eS
      rw [eS] at sb ⊢
      clear eS
      have wS : (Lit.int .i64 S).wf = true := WalkArith.wf_i64 ⟨by omega, by omega⟩
      go_wp2
      go_loopw [38] (fun i wr => ∃ j : Nat, j ≤ k ∧ i = .int .i64 j ∧ Below w.heap.size w wr ∧ ∃ ds, wr.ownsRow w.heap.size 2 1 (.slice (some ⟨w.heap.size, 0, none⟩) k k) k ds ∧ (∀ i, i < j → ds[i]? = some (.int .i64 (shareF zs T S i))) ∧ ∀ i, j ≤ i → i < k → ds[i]? = some (.int .i64 (powE zs T i))) (fun i _ => k - (intOf i).toNat)
      case atStart => exact ⟨0, Nat.zero_le _, rfl, hbr, _, ho, fun j hj => by omega, fun i _ hi => hcs i hi⟩
      case round =>
        clear hcs ho hbr
        obtain ⟨j, hj, rfl, hbr, ds, ho, h1, h2⟩ := hrel
        by_cases hlt : j < k
        · have hlen := oLe ho
          have cell : wr.cell? ⟨w.heap.size, j, none⟩ = some (.int .i64 (powE zs T j)) := (ho.cellAt j (by omega)).trans (h2 j (Nat.le_refl _) hlt)
          have froz := ho.frozenAt j
          have pb := powE_bounds zs T j
          have kd := fun (w' : (Lit.int .i64 (powE zs T j)).wf = true) W => div_call (powE zs T j) S w' wS W
          have ef : divZ (powE zs T j) S = shareF zs T S j := rfl
          rw [ef] at kd
          have R : Hid (Below w.heap.size w (wr.setCell ⟨w.heap.size, j, none⟩ (.int .i64 (shareF zs T S j))) ∧ ∃ ds', (wr.setCell ⟨w.heap.size, j, none⟩ (.int .i64 (shareF zs T S j))).ownsRow w.heap.size 2 1 (.slice (some ⟨w.heap.size, 0, none⟩) k k) k ds' ∧ (∀ i, i < j + 1 → ds'[i]? = some (.int .i64 (shareF zs T S i))) ∧ ∀ i, j + 1 ≤ i → i < k → ds'[i]? = some (.int .i64 (powE zs T i))) :=
            ⟨hbr.setCell (Nat.le_refl _) _, _, (ho.stored j _).1, set_step (F := fun i => Value.int .i64 (shareF zs T S i)) hlen hlt rfl h1, fun i h hi => by rw [List.getElem?_set_ne (by omega)]; exact h2 i (by omega) hi⟩
          obtain ⟨E, eE⟩ : ∃ E, powE zs T j = E := ⟨_, rfl⟩
          obtain ⟨G, eG⟩ : ∃ G, shareF zs T S j = G := ⟨_, rfl⟩
          rw [eE] at cell pb kd
          rw [eG] at kd R
          have wE : (Lit.int .i64 E).wf = true := WalkArith.wf_i64 ⟨by omega, by omega⟩
          clear eE eG ef h1 h2 ho hlen hbr hown hgrow hbel hi hz0 hz1 hz2 kg
          go_wp2_with (go_at_call 154; refine (kd wE _).mono ?_; rintro e w' ⟨rfl, h⟩; obtain rfl := h.symm)
          go_roundw
          case rel => exact ⟨j + 1, by omega, by go_num, R.out⟩
          case measure => simp [intOf]; omega
        · have e : j = k := by omega
          subst e
          have fin := oRa (zs := (List.range j).map (shareF zs T (sumE zs T j))) ho (by simp) (fun z hz => by obtain ⟨y, _, rfl⟩ := List.mem_map.1 hz; exact wf_divZ _ _) (fun i hi => by rw [h1 i hi, ES.out]; simp [hi])
          clear h1 h2 ho
          go_wp2
          go_ret
          exact ⟨⟨_, _, rfl, fin⟩, hbr⟩
theorem info70:(Tryz.prog.info? 70).map (fun i=>(i.zero,i.size,i.bytes))=some (some (.slice none 0 0),1,24):=by kernel_rfl
def heads (A:Nat→Option Addr)(C:Nat→Nat)(R:Nat→List Int)(k:Nat):List Value:=(List.range k).map fun r=>.slice (A r) (R r).length (C r)
theorem heads_congr {A A':Nat→Option Addr}{C C':Nat→Nat}{R:Nat→List Int}{k:Nat}(h:∀ r,r<k→A r=A' r∧C r=C' r):heads A C R k=heads A' C' R k:=by
 unfold heads
 refine List.map_congr_left fun r hr=>?_
 rw[(h r (List.mem_range.1 hr)).1,(h r (List.mem_range.1 hr)).2]
theorem heads_succ (A:Nat→Option Addr)(C:Nat→Nat)(R:Nat→List Int)(k:Nat):heads A C R (k+1)=heads A C R k++[.slice (A k) (R k).length (C k)]:=by
 simp[heads,List.range_succ]
structure OwnGrid (B:Nat) (w:World) (v:Value) (k:Nat) (A:Nat→Option Addr) (C:Nat→Nat) (R:Nat→List Int):Prop where
 own:w.ownsRow B 70 1 v k (heads A C R k)
 row:∀ r,r<k→Reads .i64 w (A r) (R r).length (R r)
 apart:∀ r,r<k→0<(R r).length→∀ x,A r=some x→∀ g,v.ownBlock=some g→x.block≠g
theorem OwnGrid.nil (B:Nat)(w:World)(A:Nat→Option Addr)(C:Nat→Nat)(R:Nat→List Int):OwnGrid B w (.slice none 0 0) 0 A C R :=
 ⟨World.ownsRow_nil _ _ _ _,fun r h=>by omega,fun r h=>by omega⟩
theorem OwnGrid.below {B:Nat}{w w':World}{v:Value}{k:Nat}{A:Nat→Option Addr}{C:Nat→Nat}{R:Nat→List Int}(h:OwnGrid B w v k A C R)(hb:Below w.heap.size w w'):OwnGrid B w' v k A C R :=
 ⟨oBe h.own hb,fun r hr=>(h.row r hr).below hb,h.apart⟩
theorem Reads.grown {k:IntKind}{w w':World}{a:Option Addr}{n:Nat}{zs:List Int}{row:Option Nat}(h:Reads k w a n zs)(hg:w.grownBy w' row)(ha:0<n→∀ x,a=some x→∀ g,row=some g→x.block≠g):Reads k w' a n zs :=
 ⟨h.len,h.max,h.wf,h.some_,fun x hx i hi=>hg.cell (h.cell x hx i hi) (fun e=>by
  exact ha (by omega) x hx _ e.symm (by simp only[Addr.add];split<;>rfl))⟩
theorem OwnGrid.app {B:Nat}{w w':World}{v v':Value}{k:Nat}{A:Nat→Option Addr}{C:Nat→Nat}{R:Nat→List Int}(h:OwnGrid B w v k A C R){p:Option Addr}{c:Nat}{V:Value}(hV:V=.slice p (R k).length c)
  (hr:Reads .i64 w p (R k).length (R k)) (hp:0<(R k).length→∀ x,p=some x→∀ g,v.ownBlock=some g→x.block≠g)
  (ho:w'.ownsRow B 70 1 v' (k+1) (heads A C R k++[V])) (hg:w.grownBy w' v.ownBlock) (hs:Stays w v v') :
  OwnGrid B w' v' (k+1) (fun r=>if r=k then p else A r) (fun r=>if r=k then c else C r) R:=by
 subst hV
 have cell_lt:∀ (a:Option Addr) (zs:List Int),Reads .i64 w a zs.length zs→0<zs.length→∀ x,a=some x→x.block<w.heap.size:=fun a zs q h0 x hx=>by
  have:=World.block_lt_of_cell? w _ (q.cell x hx 0 h0)
  simpa [Addr.add] using this
 have new:∀ (a:Option Addr) (zs:List Int),Reads .i64 w a zs.length zs→(0<zs.length→∀ x,a=some x→∀ g,v.ownBlock=some g→x.block≠g)→(0<zs.length→∀ x,a=some x→∀ g,v'.ownBlock=some g→x.block≠g):=fun a zs q hh h0 x hx g hg'=>by
  rcases hs with e|e
  ·exact hh h0 x hx g (e ▸ hg')
  ·have h1:=e g hg'
   have h2:=cell_lt a zs q h0 x hx
   omega
 refine⟨?_,fun r hr'=>?_,fun r hr' h0 x hx g hg'=>?_⟩
 ·rw[heads_succ]
  rw[heads_congr (A':=A) (C':=C) (fun r hr=>by simp only[if_neg (show r≠k by omega),and_self])]
  simpa using ho
 ·by_cases e:r=k
  ·subst e
   simp only[if_true]
   exact hr.grown hg hp
  ·simp only[if_neg e]
   exact (h.row r (by omega)).grown hg (h.apart r (by omega))
 ·by_cases e:r=k
  ·subst e
   simp only[if_true] at hx
   exact new p (R r) hr hp h0 x hx g hg'
  ·simp only[if_neg e] at hx
   exact new (A r) (R r) (h.row r (by omega)) (h.apart r (by omega)) h0 x hx g hg'
theorem OwnGrid.grid {B:Nat}{w:World}{v:Value}{k:Nat}{A:Nat→Option Addr}{C:Nat→Nat}{R:Nat→List Int}(h:OwnGrid B w v k A C R):∃ a c,v=.slice a k c∧Grid w a k A C R:=by
 rcases h.own.2 with⟨rfl,rfl⟩|⟨g,cap,cur,rfl,_,hg,hn,hm,hs,ht⟩
 ·exact⟨none,0,rfl,by omega,fun h=>by omega,fun x hx=>(by cases hx),fun r hr=>by omega⟩
 ·refine⟨_,_,rfl,by unfold maxLen at hm;omega,fun _=>⟨_,rfl⟩,fun x hx r hr=>?_,h.row⟩
  obtain rfl:=Option.some.inj hx
  exact h.own.cells (g:=g) rfl r _ (by simp[heads,hr])
section
def Only (b:Nat)(w w':World):Prop:=w.grownBy w' (some b)
theorem Only.refl (b:Nat)(w:World):Only b w w:=⟨rfl,rfl,rfl,Nat.le_refl _,fun _ _ _=>rfl⟩
theorem Only.trans {b:Nat}{w w' w'':World}(h:Only b w w')(k:Only b w' w''):Only b w w'' :=
 ⟨k.os.trans h.os,k.tape.trans h.tape,k.output.trans h.output,Nat.le_trans h.size k.size,fun i hi hn=>(k.block i (Nat.lt_of_lt_of_le hi h.size) hn).trans (h.block i hi hn)⟩
theorem Only.set (b o:Nat)(w:World)(v:Value):Only b w (w.setCell ⟨b,o,none⟩ v) :=
 ⟨rfl,rfl,rfl,by simp[World.setCell],fun k _ hn=>Below.heap_setCell _ _ _ _ (fun e=>hn (by rw[e]))⟩
theorem Only.of_below {b:Nat}{w w':World}(h:Below w.heap.size w w'):Only b w w':=⟨h.os,h.tape,h.output,h.size,fun k hk _=>h.block k hk⟩
theorem Only.below {B b:Nat}{w w' w'':World}(h:Below B w w')(hB:B≤b)(hw:B≤w'.heap.size)(k:Only b w' w''):Below B w w'' :=
 h.grown k hw (fun i hi=>by obtain rfl:=Option.some.inj hi;exact hB)
theorem Only.drewN {b:Nat}{w w':World}(h:Only b w w')(m:Nat):Only b w (w'.drewN m):=⟨h.os,h.tape,h.output,h.size,h.block⟩
variable {t:TypeId}{w w':World}{b:Nat}{s:ByteArray}{e:Int}
theorem Reads.other {k:IntKind}{c:Nat}{a:Option Addr}{n:Nat}{zs:List Int}(h:Reads k w a n zs)(hb:Only c w w')(hc:∀ x,a=some x→0<n→x.block≠c):Reads k w' a n zs :=
 ⟨h.len,h.max,h.wf,h.some_,fun x hx i hi=>hb.cell (h.cell x hx i hi) (fun e=>hc x hx (by omega) (by by_cases hz:i=0<;>simpa [Addr.add,hz] using e))⟩
end
def perZ (d dd xd ud:Int)(ne:Nat):Int:=d+dd+dd+dd+dd+d+xd+(ne:Int)*(ud+ud)
theorem wrap_small {z:Int}(h:0≤z∧z≤1000):IntKind.i64.wrap z=z:=by
 rw[IntKind.wrap_i64]
 omega
theorem int_upto {i m:Nat}{z:Int}(h:i≤m)(hz:0≤z):0≤(i:Int)*z∧(i:Int)*z≤(m:Int)*z :=
 ⟨Int.mul_nonneg (by omega) hz,Int.mul_le_mul_of_nonneg_right (by omega) hz⟩
theorem copied1 {k:IntKind}{e:TypeId}{W W1:World}{m:Nat}{zs:List Int}{v:Value}(ho:W1.ownsRow W.heap.size e 1 v (0+m) ([]++zs.map (Value.int k)))(hg:(W.alloc (.cells #[] e)).grownBy W1 (Value.slice (some ⟨W.heap.size,0,none⟩) 0 0).ownBlock)
  {a:Option Addr}{wz:World} (hr:Reads k wz a m zs):∃ b c,v=.slice b m c∧Reads k W1 b m zs∧Below W.heap.size W W1∧(b=none→c=0)∧m≤c∧∀ y,b=some y→W.heap.size≤y.block:=by
 obtain⟨a1,c1,e1,r1,hb,n1,l1⟩:=copied (W:=W) (w:=W) (Below.refl _ W) (.cells #[] e) ho hg hr
 refine⟨a1,c1,e1,r1,hb,n1,l1,fun y hy=>?_⟩
 simp only[Nat.zero_add,List.nil_append] at ho
 rw[e1,hy] at ho
 exact (ho.lt y.block (by simp[Value.ownBlock])).1
def sumZ (a b:List Int):Nat→Int
 | 0=>0
 | k+1=>addZ (sumZ a b k) (cZ (a.getD k 0)*cZ (b.getD k 0))
theorem wf_sumZ (a b:List Int)(k:Nat):(Lit.int .i64 (sumZ a b k)).wf=true:=by
 cases k with
 | zero=>show (Lit.int .i64 0).wf=true;decide
 | succ k=>exact wf_addZ _ _
theorem prodD_bounds (x y:Int)(hx:-2147483648≤x∧x≤2147483647)(hy:-2147483648≤y∧y≤2147483647):-4611686018427387904≤x*y∧x*y≤4611686018427387904:=by
 have h:(x*y).natAbs≤2147483648*2147483648:=by
  rw[Int.natAbs_mul]
  exact Nat.mul_le_mul (by omega) (by omega)
 omega
def atdotZ (a b:List Int)(bits:Int):Int:=cZ (shiftZ (sumZ a b a.length) bits)
theorem products64_call (a0:Option Addr)(n c0:Nat)(zs:List Int)(a1:Option Addr)(c1:Nat)(xs:List Int)(bits:Int)(w:World)
  (h0:Reads .i64 w a0 n zs) (h1:Reads .i64 w a1 n xs) (hb:(Lit.int .i64 bits).wf=true) :
  Calls Tryz.prog 238 #[.slice a0 n c0,.slice a1 n c1,.int .i64 bits] w fun e w'=>e=.returned (.int .i64 (atdotZ zs xs bits))∧∃ m,w'=w.drewN m:=by
 have hm:=h0.max
 have hl:zs.length=n:=h0.len
 unfold atdotZ
 rw[hl]
 clear hl
 go_enter Tryz.func238,Tryz.ntmps238
 go_wp2
 go_loopw [7,12] (fun s i wr=>∃ k:Nat,k≤n∧i=.int .i64 k∧s=.int .i64 (sumZ zs xs k)∧∃ m,wr=w.drewN m) (fun _ i _=>n-(intOf i).toNat)
 case atStart=>exact⟨0,Nat.zero_le _,rfl,rfl,0,rfl⟩
 case round =>
  obtain⟨k,hk,rfl,rfl,m,hw⟩:=hrel
  by_cases hlt:k<n
  ·obtain⟨x,rfl⟩:=h0.some_ (by omega)
   obtain⟨y,rfl⟩:=h1.some_ (by omega)
   have cx:wr.cell? (x.add k)=some (.int .i64 (zs.getD k 0)):=by rw[hw];exact h0.cell x rfl k hlt
   have cy:wr.cell? (y.add k)=some (.int .i64 (xs.getD k 0)):=by rw[hw];exact h1.cell y rfl k hlt
   have Hw:Hid (wr=w.drewN m):=hw
   clear hw
   have wz:=h0.wf k
   have es:sumZ zs xs (k+1)=addZ (sumZ zs xs k) (cZ (zs.getD k 0)*cZ (xs.getD k 0)):=rfl
   have ws:=wf_sumZ zs xs k
   obtain⟨Z,eZ⟩:∃ Z,zs.getD k 0=Z:=⟨_,rfl⟩
   obtain⟨X,eX⟩:∃ X,xs.getD k 0=X:=⟨_,rfl⟩
   obtain⟨S,eS⟩:∃ S,sumZ zs xs k=S:=⟨_,rfl⟩
   rw[eZ] at cx es wz
   rw[eX] at cy es
   rw[eS] at es ws ⊢
   have Es:Hid (sumZ zs xs (k+1)=addZ S (cZ Z*cZ X)):=es
   clear eZ eX eS es
   have bz:=cZb Z
   have bx:=cZb X
   have bp:=prodD_bounds _ _ bz bx
   have wp:(Lit.int .i64 (cZ Z*cZ X)).wf=true:=WalkArith.wf_i64 ⟨by omega,by omega⟩
   go_wp2
   go_quiet (first|(go_at_call 79;refine Calls.quiet_of_same (cCa _ _))|(go_at_call 111;refine Calls.quiet_of_same (add_call _ _ ws wp _)))
   go_wp2
   go_roundw
   case rel=>exact⟨k+1,by omega,by go_num,by rw[Es.out],_,by rw[Hw.out,World.drewN_drewN]⟩
   case measure=>simp[intOf];omega
  ·have e:k=n:=by omega
   subst e
   subst hw
   have ws:=wf_sumZ zs xs k
   go_wp2_with (first|(go_at_call 201;refine (shift_call _ _ ws hb _).mono ?_;rintro e w' ⟨rfl,rfl⟩)|(go_at_call 79;refine (cCa _ _).mono ?_;rintro e w' ⟨rfl,rfl⟩))
   go_ret
   exact⟨rfl,_,rfl⟩
theorem inner_call (a0:Option Addr)(n0 c0:Nat)(zs:List Int)(a1:Option Addr)(n1 c1:Nat)(xs:List Int)(w:World)
  (h0:Reads .i64 w a0 n0 zs) (h1:Reads .i64 w a1 n1 xs) :
  Calls Tryz.prog 225 #[.slice a0 n0 c0,.slice a1 n1 c1] w fun e w'=>e=.returned (.tuple #[.int .i64 (if n0=n1 then atdotZ zs xs 16 else 0),.int .i64 (if n0=n1 then 0 else 21)])∧∃ m,w'=w.drewN m:=by
 by_cases e:n0=n1
 ·subst e
  simp only[if_true]
  go_enter Tryz.func225,Tryz.ntmps225
  go_wp2_with (go_at_call 238;refine (products64_call _ _ _ _ _ _ _ _ _ h0 h1 (by decide)).mono ?_;rintro e w' ⟨rfl,m,rfl⟩)
  go_ret2
  exact⟨rfl,_,rfl⟩
 ·simp only[if_neg e]
  have e':((n0:Int)==(n1:Int))=false:=by simp;omega
  go_enter Tryz.func225,Tryz.ntmps225
  go_wp2_with fail
  go_ret2
  exact⟨rfl,0,rfl⟩
def scoreF (q:List Int)(K:Nat→List Int)(d:Nat)(i:Nat):Int:=mulZ (atdotZ q (K i) 16) (rsqrtZ ((d:Int)*65536))
def scoresZ (q:List Int)(K:Nat→List Int)(d n:Nat):List Int:=(List.range n).map (scoreF q K d)
def atblendTo (s:List Int)(V:Nat→List Int)(j:Nat):Nat→Int
 | 0=>0
 | k+1=>addZ (atblendTo s V j k) (s.getD k 0*cZ ((V k).getD j 0))
def atblendZ (s:List Int)(V:Nat→List Int)(n j:Nat):Int:=cZ (shiftZ (atblendTo s V j n) 16)
def headZ (q:List Int)(K V:Nat→List Int)(d n:Nat):List Int:=(List.range d).map (atblendZ (softZ (scoresZ q K d n) n) V n)
theorem atwf_blendTo (s:List Int)(V:Nat→List Int)(j k:Nat):(Lit.int .i64 (atblendTo s V j k)).wf=true:=by
 cases k with
 | zero=>show (Lit.int .i64 0).wf=true;decide
 | succ k=>exact wf_addZ _ _
theorem wf_blendZ (s:List Int)(V:Nat→List Int)(n j:Nat):(Lit.int .i64 (atblendZ s V n j)).wf=true:=wCz _
theorem wf_headZ (q:List Int)(K V:Nat→List Int)(d n:Nat):∀ z∈headZ q K V d n,(Lit.int .i64 z).wf=true:=fun z hz=>by
 obtain⟨y,_,rfl⟩:=List.mem_map.1 hz
 exact wf_blendZ _ _ _ _
theorem headZ_length (q:List Int)(K V:Nat→List Int)(d n:Nat):(headZ q K V d n).length=d:=by simp[headZ]
theorem scoresZ_length (q:List Int)(K:Nat→List Int)(d n:Nat):(scoresZ q K d n).length=n:=by simp[scoresZ]
theorem wf_mulZ (a b:Int):(Lit.int .i64 (mulZ a b)).wf=true:=wCz _
theorem wf_dotZ (a b:List Int)(n:Int):(Lit.int .i64 (atdotZ a b n)).wf=true:=wCz _
theorem rsqrtZ_bounds (x:Int):0≤rsqrtZ x∧rsqrtZ x≤2147483647:=by
 unfold rsqrtZ
 split
 ·omega
 ·have q:=quot_bounds (cZ x) (by omega)
  have s:=rootZ_spec _ q.1 q.2
  refine⟨s.1,?_⟩
  rcases Int.lt_or_le 2147483647 (rootZ (281474976710656/cZ x)) with h|h
  ·have:2147483648*2147483648≤rootZ (281474976710656/cZ x)*rootZ (281474976710656/cZ x):=Int.mul_le_mul (by omega) (by omega) (by omega) (by omega)
   omega
  ·exact h
theorem wf_rsqrtZ (x:Int):(Lit.int .i64 (rsqrtZ x)).wf=true:=by
 have:=rsqrtZ_bounds x
 exact WalkArith.wf_i64 ⟨by omega,by omega⟩
theorem softZ_bounds (z:List Int)(n k:Nat):-2147483648≤(softZ z n).getD k 0∧(softZ z n).getD k 0≤2147483647:=by
 by_cases h:k<n
 ·have e:(softZ z n).getD k 0=shareF z (topZ (-2147483648) z n) (sumE z (topZ (-2147483648) z n) n) k:=by simp[softZ,h]
  rw[e]
  unfold shareF divZ
  split
  ·unfold noughtZ
   repeat' split
   all_goals omega
  ·exact cZb _
 ·have e:(softZ z n).getD k 0=0:=by simp[softZ,h]
  rw[e]
  omega
theorem len_mul (d:Nat)(hb:d*8≤140737488355328):0≤(d:Int)*65536∧(d:Int)*65536≤9223372036854775807:=by omega
theorem scores_call (a0 : Option Addr) (d c0 : Nat) (q : List Int) (a1 : Option Addr) (n c1 : Nat) (A : Nat → Option Addr) (C : Nat → Nat) (K : Nat → List Int) (w : World)
    (h0 : Reads .i64 w a0 d q) (h1 : Grid w a1 n A C K) (hr : ∀ r, r < n → (K r).length = d) (hb0 : d * 8 ≤ 140737488355328) (hb1 : n * 8 ≤ 140737488355328) :
    Calls Tryz.prog 204 #[.slice a0 d c0, .slice a1 n c1] w fun e w' => (∃ a c, e = .returned (.slice a n c) ∧ Reads .i64 w' a n (scoresZ q K d n)) ∧ Below w.heap.size w w' := by
  obtain ⟨i0, hi, hz0, hz1, hz2⟩ := info_parts info2
  have hm := h1.max
  have lm := len_mul d hb0
  have kr := rsqrt_call ((d : Int) * 65536)
  have wr' := wf_rsqrtZ ((d : Int) * 65536)
  have ef : ∀ i, scoreF q K d i = mulZ (atdotZ q (K i) 16) (rsqrtZ ((d : Int) * 65536)) := fun _ => rfl
  obtain ⟨S, eS⟩ : ∃ S, rsqrtZ ((d : Int) * 65536) = S := ⟨_, rfl⟩
  rw [eS] at kr wr'
  simp only [eS] at ef
  clear eS
  go_enter Tryz.func204, Tryz.ntmps204
  go_wp2_with (first
    | (go_at_call 182; refine (kr _).mono ?_; rintro e w' ⟨rfl, h⟩; obtain rfl := h.symm)
    | (at_make; refine wpList_make_full _ rfl (.tmp 16) (.tmp 16) 70 rfl w.heap.size 2 i0 (.int .i64 0) 1 Tryz.underlying70 hi hz0 hz1 .i64 .i64 _ _ n rfl rfl rfl rfl (by rw [hz2]; omega) (by unfold maxLen; omega) (Nat.le_refl _) ?_; intro w1 hown hgrow))
  have hbel : Below w.heap.size w w1 := (Below.refl _ _).grown hgrow (Nat.le_refl _) (fun k h => by cases h)
  go_wp2
  go_loopw [20] (fun i wr => ∃ k : Nat, k ≤ n ∧ i = .int .i64 k ∧ Below w.heap.size w wr ∧ ∃ cs, wr.ownsRow w.heap.size 2 1 (.slice (some ⟨w.heap.size, 0, none⟩) n n) n cs ∧ ∀ j, j < k → cs[j]? = some (.int .i64 (scoreF q K d j))) (fun i _ => n - (intOf i).toNat)
  case atStart => exact ⟨0, Nat.zero_le _, rfl, hbel, _, hown, fun j hj => by omega⟩
  case round =>
    obtain ⟨k, hk, rfl, hbr, cs, ho, hcs⟩ := hrel
    by_cases hlt : k < n
    · have hg := h1.below hbr
      obtain ⟨x, rfl⟩ := h1.some_ (by omega)
      have cx := hg.cell x rfl k hlt
      have rk := hg.row k hlt
      rw [hr k hlt] at cx rk
      have ki := inner_call a0 d c0 q (A k) d (C k) (K k) wr (h0.below hbr) rk
      simp only [if_true] at ki
      have wd := wf_dotZ q (K k) 16
      have hlen := oLe ho
      have efk := ef k
      obtain ⟨D, eD⟩ : ∃ D, atdotZ q (K k) 16 = D := ⟨_, rfl⟩
      rw [eD] at ki wd efk
      have km := fun W => mul_call D S wd wr' W
      rw [← efk] at km
      have step := fun (W : World) (hs : W.ownsRow w.heap.size 2 1 (.slice (some ⟨w.heap.size, 0, none⟩) n n) n cs) => And.intro (hs.stored k (.int .i64 (scoreF q K d k))).1 (set_step (F := fun j => Value.int .i64 (scoreF q K d j)) hlen hlt rfl hcs)
      obtain ⟨u, hu⟩ : ∃ u, cs[k]? = some u := ⟨cs[k], by simp [hlen, hlt]⟩
      obtain ⟨E, eE⟩ : ∃ E, scoreF q K d k = E := ⟨_, rfl⟩
      rw [eE] at km step
      clear eE efk eD ef hg rk hown hgrow hbel hi hz0 hz1 hz2 h1 h0 hr kr hcs
      go_wp2_with (first
        | (go_at_call 225; refine ki.mono ?_; rintro e W2 ⟨rfl, hq⟩
           have hb2 := bDr (Below.refl wr.heap.size wr) hq
           have ho2 := oBe ho hb2
           have cell2 : W2.cell? ⟨w.heap.size, k, none⟩ = some u := (ho2.cellAt k (by omega)).trans hu
           have froz2 := ho2.frozenAt k
           have st2 := step W2 ho2
           have R : Hid (Below w.heap.size w (W2.setCell ⟨w.heap.size, k, none⟩ (.int .i64 E)) ∧ ∃ cs', (W2.setCell ⟨w.heap.size, k, none⟩ (.int .i64 E)).ownsRow w.heap.size 2 1 (.slice (some ⟨w.heap.size, 0, none⟩) n n) n cs' ∧ ∀ j, j < k + 1 → cs'[j]? = some (.int .i64 (scoreF q K d j))) :=
             ⟨(bTn hbr hb2).setCell (Nat.le_refl _) _, _, st2.1, st2.2⟩
           clear ho2 st2 hb2 hq ki)
        | (go_at_call 185; refine (km _).mono ?_; rintro e w' ⟨rfl, h⟩; obtain rfl := h.symm))
      go_roundw
      case rel => exact ⟨k + 1, by omega, by go_num, R.out⟩
      case measure => simp [intOf]; omega
    · have e : k = n := by omega
      subst e
      have fin := oRa (zs := scoresZ q K d k) ho (scoresZ_length ..) (fun z hz => by obtain ⟨y, _, rfl⟩ := List.mem_map.1 hz; exact wf_mulZ _ _) (fun i hi => by rw [hcs i hi]; simp [scoresZ, hi])
      clear hcs ho
      go_wp2
      go_ret
      exact ⟨⟨_, _, rfl, fin⟩, hbr⟩
theorem atblend_call (a0:Option Addr)(n c0:Nat)(s:List Int)(a2:Option Addr)(m c2:Nat)(A:Nat→Option Addr)(C:Nat→Nat)(V:Nat→List Int)(d j:Nat)(w:World)
  (h0:Reads .i64 w a0 n s) (h2:Grid w a2 m A C V) (hnm:n=m) (hr:∀ r,r<n→(V r).length=d) (hj:j<d) (hs:∀ k,-2147483648≤s.getD k 0∧s.getD k 0≤2147483647) :
  Calls Tryz.prog 205 #[.slice a0 n c0,.slice a2 m c2,.int .i64 j] w fun e w'=>e=.returned (.int .i64 (atblendZ s V n j))∧w'=w:=by
 subst hnm
 have hm:=h0.max
 unfold atblendZ
 go_enter Tryz.func205,Tryz.ntmps205
 go_wp2
 go_loopw [7,12] (fun b i wr=>∃ k:Nat,k≤n∧i=.int .i64 k∧b=.int .i64 (atblendTo s V j k)∧wr=w) (fun _ i _=>n-(intOf i).toNat)
 case atStart=>exact⟨0,Nat.zero_le _,rfl,rfl,rfl⟩
 case round =>
  obtain⟨k,hk,rfl,rfl,hw⟩:=hrel
  subst hw
  by_cases hlt:k<n
  ·obtain⟨x,rfl⟩:=h0.some_ (by omega)
   obtain⟨y,rfl⟩:=h2.some_ (by omega)
   have cx:=h0.cell x rfl k hlt
   have cy:=h2.cell y rfl k hlt
   have rk:=h2.row k hlt
   rw[hr k hlt] at cy rk
   have hd:=rk.max
   obtain⟨z,ez⟩:=rk.some_ (by omega)
   have cz:=rk.cell z ez j hj
   rw[ez] at cy
   have es:atblendTo s V j (k+1)=addZ (atblendTo s V j k) (s.getD k 0*cZ ((V k).getD j 0)):=rfl
   have ws:=atwf_blendTo s V j k
   have bs:=hs k
   obtain⟨X,eX⟩:∃ X,s.getD k 0=X:=⟨_,rfl⟩
   obtain⟨Y,eY⟩:∃ Y,(V k).getD j 0=Y:=⟨_,rfl⟩
   obtain⟨S,eS⟩:∃ S,atblendTo s V j k=S:=⟨_,rfl⟩
   rw[eX] at cx es bs
   rw[eY] at cz es
   rw[eS] at es ws ⊢
   have bc:=cZb Y
   have bp:=prodD_bounds _ _ bs bc
   have kc:=fun W=>cCa Y W
   have wp:(Lit.int .i64 (X*cZ Y)).wf=true:=WalkArith.wf_i64 ⟨by omega,by omega⟩
   obtain⟨Z,eZ⟩:∃ Z,cZ Y=Z:=⟨_,rfl⟩
   rw[eZ] at es bc bp kc wp
   have ka:=fun W=>add_call S (X*Z) ws wp W
   have Es:Hid (atblendTo s V j (k+1)=addZ S (X*Z)):=es
   obtain⟨T,eT⟩:∃ T,addZ S (X*Z)=T:=⟨_,rfl⟩
   rw[eT] at Es ka
   obtain⟨b1,b2⟩:=bp
   clear eX eY eS eZ eT es rk h0 h2 hr hs
   go_wp2_with (first
    | (go_at_call 79;refine (kc _).mono ?_;rintro e w' ⟨rfl,h⟩;obtain rfl:=h.symm)
    | (go_at_call 111;refine (ka _).mono ?_;rintro e w' ⟨rfl,h⟩;obtain rfl:=h.symm))
   go_roundw
   case rel=>exact⟨k+1,by omega,by go_num,by rw[Es.out],trivial⟩
   case measure=>simp[intOf];omega
  ·have e:k=n:=by omega
   subst e
   have ws:=atwf_blendTo s V j k
   go_wp2_with (first|(go_at_call 201;refine (shift_call _ _ ws (by decide) _).mono ?_;rintro e w' ⟨rfl,rfl⟩)|(go_at_call 79;refine (cCa _ _).mono ?_;rintro e w' ⟨rfl,rfl⟩))
   go_ret
   exact⟨rfl,rfl⟩
theorem head_yes (a0:Option Addr)(d c0:Nat)(q:List Int)(a1:Option Addr)(n c1:Nat)(A:Nat→Option Addr)(C:Nat→Nat)(K:Nat→List Int)(a2:Option Addr)(c2:Nat)(A':Nat→Option Addr)(C':Nat→Nat)(V:Nat→List Int)(w:World)
  (h0:Reads .i64 w a0 d q) (h1:Grid w a1 n A C K) (h2:Grid w a2 n A' C' V) (hd:0<d) (hn:0<n) (hr:∀ r,r<n→(K r).length=d∧(V r).length=d) (hb0:d*8≤140737488355328) (hb1:n*8≤140737488355328) :
  Calls Tryz.prog 179 #[.slice a0 d c0,.slice a1 n c1,.slice a2 n c2] w fun e w'=>(∃ a c,e=.returned (.tuple #[.slice a d c,.int .i64 0])∧Reads .i64 w' a d (headZ q K V d n)∧(a=none→c=0))∧Below w.heap.size w w':=by
 obtain⟨i0,hi,hz0,hz1,hz2⟩:=info_parts info2
 have hm:=h0.max
 have kf:=fits_yes a0 d c0 a1 n c1 A C K a2 c2 A' C' V w h1 h2 hd hn hr
 have kc:=scores_call a0 d c0 q a1 n c1 A C K w h0 h1 (fun r h=>(hr r h).1) hb0 hb1
 have sl:=softZ_bounds (scoresZ q K d n) n
 have eh:headZ q K V d n=(List.range d).map (atblendZ (softZ (scoresZ q K d n) n) V n):=rfl
 have wh:=wf_headZ q K V d n
 have lh:=headZ_length q K V d n
 have kso:=fun (W:World) a c (h:Reads .i64 W a n (scoresZ q K d n))=>soft_call a n c (scoresZ q K d n) W h (by omega)
 obtain⟨s,es⟩:∃ s,softZ (scoresZ q K d n) n=s:=⟨_,rfl⟩
 rw[es] at sl eh
 simp only[es] at kso
 obtain⟨t,et⟩:∃ t,scoresZ q K d n=t:=⟨_,rfl⟩
 simp only[et] at kso
 rw[et] at kc
 clear es et
 go_enter Tryz.func179,Tryz.ntmps179
 go_wp2_with (first
  | (go_at_call 177;refine kf.mono ?_;rintro e w' ⟨rfl,h⟩;obtain rfl:=h.symm;clear kf)
  | (go_at_call 204;refine kc.mono ?_;rintro e W1 ⟨⟨pa,pc,rfl,r1⟩,b1⟩;clear kc)
  | (go_at_call 125;refine (kso W1 pa pc r1).mono ?_;rintro e W2 ⟨⟨sa,sc,rfl,r2⟩,b2⟩;replace b2:=bTn b1 b2;clear kso r1)
  | (at_make;refine wpList_make_full _ rfl (.tmp 21) (.tmp 21) 70 rfl w.heap.size 2 i0 (.int .i64 0) 1 Tryz.underlying70 hi hz0 hz1 .i64 .i64 _ _ d rfl rfl rfl rfl (by rw[hz2];omega) (by unfold maxLen;omega) b2.size ?_;intro w1 hown hgrow))
 have b3:Below W2.heap.size W2 w1:=(Below.refl _ _).grown hgrow (Nat.le_refl _) (fun k h=>by cases h)
 have hg:=b2.size
 have g2:=h2.below b2
 clear hgrow h2 h1 h0 b1
 go_wp2
 go_loopw [25] (fun i wr=>∃ k:Nat,k≤d∧i=.int .i64 k∧Below W2.heap.size W2 wr∧∃ cs,wr.ownsRow w.heap.size 2 1 (.slice (some ⟨W2.heap.size,0,none⟩) d d) d cs∧∀ j,j<k→cs[j]? = some (.int .i64 (atblendZ s V n j))) (fun i _=>d-(intOf i).toNat)
 case atStart=>exact⟨0,Nat.zero_le _,rfl,b3,_,hown,fun j hj=>by omega⟩
 case round =>
  clear hown b3
  obtain⟨k,hk,rfl,hbr,cs,ho,hcs⟩:=hrel
  by_cases hlt:k<d
  ·have kb:=atblend_call sa n sc s a2 n c2 A' C' V d k wr (r2.below hbr) (g2.below hbr) rfl (fun r h=>(hr r h).2) hlt sl
   have hlen:=oLe ho
   obtain⟨u,hu⟩:∃ u,cs[k]? = some u:=⟨cs[k],by simp[hlen,hlt]⟩
   have cell:wr.cell? ⟨W2.heap.size,k,none⟩=some u:=(ho.cellAt k (by omega)).trans hu
   have froz:=ho.frozenAt k
   have R:Hid (Below W2.heap.size W2 (wr.setCell ⟨W2.heap.size,k,none⟩ (.int .i64 (atblendZ s V n k)))∧∃ cs',(wr.setCell ⟨W2.heap.size,k,none⟩ (.int .i64 (atblendZ s V n k))).ownsRow w.heap.size 2 1 (.slice (some ⟨W2.heap.size,0,none⟩) d d) d cs'∧∀ j,j<k+1→cs'[j]? = some (.int .i64 (atblendZ s V n j))) :=
    ⟨hbr.setCell (Nat.le_refl _) _,_,(ho.stored k _).1,set_step (F:=fun j=>Value.int .i64 (atblendZ s V n j)) hlen hlt rfl hcs⟩
   obtain⟨E,eE⟩:∃ E,atblendZ s V n k=E:=⟨_,rfl⟩
   rw[eE] at kb R
   clear eE ho hcs hlen hbr hr sl g2 r2 eh wh lh hi hz0 hz1 hz2 hu
   go_wp2_with (go_at_call 205;refine kb.mono ?_;rintro e w' ⟨rfl,h⟩;obtain rfl:=h.symm)
   go_roundw
   case rel=>exact⟨k+1,by omega,by go_num,R.out⟩
   case measure=>simp[intOf];omega
  ·have e:k=d:=by omega
   subst e
   have fin:=oRa (zs:=headZ q K V k n) ho lh wh (fun i hi=>by rw[hcs i hi,eh];simp[hi])
   have bw:=bTn b2 hbr
   clear hcs ho
   go_wp2
   go_ret2
   exact⟨⟨_,_,rfl,fin,fun h=>by cases h⟩,bw⟩
def cutR (R:Nat→List Int)(f d:Nat)(r:Nat):List Int:=((R r).drop f).take d
def cutA (A:Nat→Option Addr)(f:Nat)(r:Nat):Option Addr:=(A r).map fun x=>x.add f
theorem cutR_length (R:Nat→List Int)(f d r:Nat)(h:f+d≤(R r).length):(cutR R f d r).length=d:=by
 unfold cutR
 rw[List.length_take,List.length_drop]
 omega
theorem part_call (x:Addr)(n c f d B:Nat)(w:World)(hd:0<d)(hn:f+d≤n)(hc:n≤c)(hm:n≤9223372036854775807)(hB:w.cell? ⟨B,0,none⟩=some (.int .i64 d)) :
  Calls Tryz.prog 178 #[.slice (some x) n c,.int .i64 f,.pointer (some ⟨B,0,none⟩)] w fun e w'=>e=.returned (.slice (some (x.add f)) d d)∧w'=w:=by
 obtain⟨Q,eQ⟩:∃ Q,f+d=Q:=⟨_,rfl⟩
 have eQ':(f:Int)+(d:Int)=(Q:Int):=by omega
 have eQ2:Q-f=d:=by omega
 have hQ:Q≤n:=by omega
 have hP:f<Q:=by omega
 clear eQ
 go_enter Tryz.func178,Tryz.ntmps178
 go_wp2
 go_ret
 exact⟨rfl,rfl⟩
theorem cut_grid {w:World}{a:Option Addr}{n:Nat}{A:Nat→Option Addr}{C:Nat→Nat}{R:Nat→List Int}(h:Grid w a n A C R){f d:Nat}(hd:0<d)(hr:∀ r,r<n→f+d≤(R r).length)
  {b:Option Addr} (hb:0<n→∃ x,b=some x) {D:Nat→Nat} (hc:∀ x,b=some x→∀ r,r<n→w.cell? (x.add r)=some (.slice (cutA A f r) d (D r))):Grid w b n (cutA A f) D (cutR R f d):=by
 refine⟨h.max,hb,fun x hx r hr'=>?_,fun r hr'=>?_⟩
 ·rw[cutR_length R f d r (hr r hr')]
  exact hc x hx r hr'
 ·have rr:=h.row r hr'
  have h1:=hr r hr'
  obtain⟨x,hx⟩:=rr.some_ (by omega)
  rw[cutR_length R f d r h1]
  unfold cutA cutR
  rw[hx] at rr ⊢
  exact rr.cut f d h1
theorem cutEach_call (a:Option Addr)(n c:Nat)(A:Nat→Option Addr)(C:Nat→Nat)(R:Nat→List Int)(f d B:Nat)(w:World)(h:Grid w a n A C R)(hC:∀ r,r<n→(R r).length≤C r)(hd:0<d)(hr:∀ r,r<n→f+d≤(R r).length)
  (hB:w.cell? ⟨B,0,none⟩=some (.int .i64 d)) (hb:n*24≤140737488355328) :
  Calls Tryz.prog 180 #[.slice a n c,.int .i64 f,.func (.func 178) #[] #[.pointer (some ⟨B,0,none⟩)]] w fun e w'=>(∃ x k,e=.returned (.slice (some x) n k)∧Grid w' (some x) n (cutA A f) (fun _=>d) (cutR R f d))∧Below w.heap.size w w':=by
 obtain⟨i0,hi,hz0,hz1,hz2⟩:=info_parts info70
 have hm:=h.max
 go_enter Tryz.func180,Tryz.ntmps180
 go_wp2_with (first
  | (at_make;refine wpList_make_full _ rfl (.tmp 11) (.tmp 11) 67 rfl w.heap.size 70 i0 (.slice none 0 0) 1 Tryz.underlying67 hi hz0 hz1 .i64 .i64 _ _ n rfl rfl rfl rfl (by rw[hz2];omega) (by unfold maxLen;omega) (Nat.le_refl _) ?_;intro w1 hown hgrow))
 have hbel:Below w.heap.size w w1:=(Below.refl _ _).grown hgrow (Nat.le_refl _) (fun k h=>by cases h)
 clear hgrow
 go_wp2
 go_loopw [15] (fun i wr=>∃ k:Nat,k≤n∧i=.int .i64 k∧Below w.heap.size w wr∧∃ cs,wr.ownsRow w.heap.size 70 1 (.slice (some ⟨w.heap.size,0,none⟩) n n) n cs∧∀ j,j<k→cs[j]? = some (.slice (cutA A f j) d d)) (fun i _=>n-(intOf i).toNat)
 case atStart=>exact⟨0,Nat.zero_le _,rfl,hbel,_,hown,fun j hj=>by omega⟩
 case round =>
  clear hown hbel
  obtain⟨k,hk,rfl,hbr,cs,ho,hcs⟩:=hrel
  by_cases hlt:k<n
  ·obtain⟨x,rfl⟩:=h.some_ (by omega)
   have rk:=h.row k hlt
   have cx:=(h.below hbr).cell x rfl k hlt
   have h1:=hr k hlt
   have h2:=hC k hlt
   have h3:=rk.max
   obtain⟨y,ey⟩:=rk.some_ (by omega)
   have eA:cutA A f k=some (y.add f):=by unfold cutA;rw[ey];rfl
   rw[ey] at cx
   have hB':wr.cell? ⟨B,0,none⟩=some (.int .i64 d):=(hbr.cell (World.block_lt_of_cell? w _ hB)).trans hB
   obtain⟨L,eL⟩:∃ L,(R k).length=L:=⟨_,rfl⟩
   rw[eL] at cx h1 h2 h3
   have kp:=part_call y L (C k) f d B wr hd h1 h2 h3 hB'
   have hlen:=oLe ho
   obtain⟨u,hu⟩:∃ u,cs[k]? = some u:=⟨cs[k],by simp[hlen,hlt]⟩
   have cell:wr.cell? ⟨w.heap.size,k,none⟩=some u:=(ho.cellAt k (by omega)).trans hu
   have froz:=ho.frozenAt k
   have Rr:Hid (Below w.heap.size w (wr.setCell ⟨w.heap.size,k,none⟩ (.slice (some (y.add f)) d d))∧∃ cs',(wr.setCell ⟨w.heap.size,k,none⟩ (.slice (some (y.add f)) d d)).ownsRow w.heap.size 70 1 (.slice (some ⟨w.heap.size,0,none⟩) n n) n cs'∧∀ j,j<k+1→cs'[j]? = some (.slice (cutA A f j) d d)) :=
    ⟨hbr.setCell (Nat.le_refl _) _,_,(ho.stored k _).1,set_step (F:=fun j=>Value.slice (cutA A f j) d d) hlen hlt (by rw[eA]) hcs⟩
   clear eL eA ey rk ho hcs hlen hbr hu h hr hC hB hi hz0 hz1 hz2
   go_wp2_with (go_at_call 178;refine kp.mono ?_;rintro e w' ⟨rfl,h⟩;obtain rfl:=h.symm)
   go_roundw
   case rel=>exact⟨k+1,by omega,by go_num,Rr.out⟩
   case measure=>simp[intOf];omega
  ·have e:k=n:=by omega
   subst e
   have fin:=cut_grid (h.below hbr) hd hr (b:=some ⟨w.heap.size,0,none⟩) (fun _=>⟨_,rfl⟩) (D:=fun _=>d) (fun x hx r hr'=>by
    obtain rfl:=Option.some.inj hx
    exact ho.cells (g:=w.heap.size) rfl r _ (hcs r hr'))
   clear hcs ho
   go_wp2
   go_ret
   exact⟨⟨_,_,rfl,fin⟩,hbr⟩
def prodZ (a b:List Int):Nat→Int
 | 0=>0
 | k+1=>addZ (prodZ a b k) (cZ (a.getD k 0)*cZ (b.getD k 0))
theorem wf_prodZ (a b:List Int)(k:Nat):(Lit.int .i64 (prodZ a b k)).wf=true:=by
 cases k with
 | zero=>show (Lit.int .i64 0).wf=true;decide
 | succ k=>exact wf_addZ _ _
theorem prodM_bounds (x y:Int)(hx:-2147483648≤x∧x≤2147483647)(hy:-2147483648≤y∧y≤2147483647):-4611686018427387904≤x*y∧x*y≤4611686018427387904:=by
 have h:(x*y).natAbs≤2147483648*2147483648:=by
  rw[Int.natAbs_mul]
  exact Nat.mul_le_mul (by omega) (by omega)
 omega
def dotZ (a b:List Int)(bits:Int):Int:=cZ (shiftZ (prodZ a b a.length) bits)
theorem products8_call (a0:Option Addr)(n c0:Nat)(zs:List Int)(a1:Option Addr)(c1:Nat)(xs:List Int)(bits:Int)(w:World)
  (h0:Reads .i8 w a0 n zs) (h1:Reads .i64 w a1 n xs) (hb:(Lit.int .i64 bits).wf=true) :
  Calls Tryz.prog 192 #[.slice a0 n c0,.slice a1 n c1,.int .i64 bits] w fun e w'=>e=.returned (.int .i64 (dotZ zs xs bits))∧∃ m,w'=w.drewN m:=by
 have hm:=h0.max
 have hl:zs.length=n:=h0.len
 unfold dotZ
 rw[hl]
 clear hl
 go_enter Tryz.func192,Tryz.ntmps192
 go_wp2
 go_loopw [7,12] (fun s i wr=>∃ k:Nat,k≤n∧i=.int .i64 k∧s=.int .i64 (prodZ zs xs k)∧∃ m,wr=w.drewN m) (fun _ i _=>n-(intOf i).toNat)
 case atStart=>exact⟨0,Nat.zero_le _,rfl,rfl,0,rfl⟩
 case round =>
  obtain⟨k,hk,rfl,rfl,m,hw⟩:=hrel
  by_cases hlt:k<n
  ·obtain⟨x,rfl⟩:=h0.some_ (by omega)
   obtain⟨y,rfl⟩:=h1.some_ (by omega)
   have cx:wr.cell? (x.add k)=some (.int .i8 (zs.getD k 0)):=by rw[hw];exact h0.cell x rfl k hlt
   have cy:wr.cell? (y.add k)=some (.int .i64 (xs.getD k 0)):=by rw[hw];exact h1.cell y rfl k hlt
   have Hw:Hid (wr=w.drewN m):=hw
   clear hw
   have wz:=h0.wf k
   have es:prodZ zs xs (k+1)=addZ (prodZ zs xs k) (cZ (zs.getD k 0)*cZ (xs.getD k 0)):=rfl
   have ws:=wf_prodZ zs xs k
   obtain⟨Z,eZ⟩:∃ Z,zs.getD k 0=Z:=⟨_,rfl⟩
   obtain⟨X,eX⟩:∃ X,xs.getD k 0=X:=⟨_,rfl⟩
   obtain⟨S,eS⟩:∃ S,prodZ zs xs k=S:=⟨_,rfl⟩
   rw[eZ] at cx es wz
   rw[eX] at cy es
   rw[eS] at es ws ⊢
   have Es:Hid (prodZ zs xs (k+1)=addZ S (cZ Z*cZ X)):=es
   clear eZ eX eS es
   have bz:=cZb Z
   have bx:=cZb X
   have bp:=prodM_bounds _ _ bz bx
   have wp:(Lit.int .i64 (cZ Z*cZ X)).wf=true:=WalkArith.wf_i64 ⟨by omega,by omega⟩
   have b8:-128≤Z∧Z≤127:=by simpa [Lit.wf,IntKind.min,IntKind.max,IntKind.signed,IntKind.bits] using wz
   go_wp2
   go_quiet (first|(go_at_call 79;refine Calls.quiet_of_same (cCa _ _))|(go_at_call 111;refine Calls.quiet_of_same (add_call _ _ ws wp _)))
   go_wp2
   go_roundw
   case rel=>exact⟨k+1,by omega,by go_num,by rw[Es.out],_,by rw[Hw.out,World.drewN_drewN]⟩
   case measure=>simp[intOf];omega
  ·have e:k=n:=by omega
   subst e
   subst hw
   have ws:=wf_prodZ zs xs k
   go_wp2_with (first|(go_at_call 201;refine (shift_call _ _ ws hb _).mono ?_;rintro e w' ⟨rfl,rfl⟩)|(go_at_call 79;refine (cCa _ _).mono ?_;rintro e w' ⟨rfl,rfl⟩))
   go_ret
   exact⟨rfl,_,rfl⟩
theorem rest16 (n:Int):(n.tmod 16+16).tmod 16=n%16∧-16<n.tmod 16∧n.tmod 16<16:=by
 have a:=Int.tmod_eq_emod (a:=n) (b:=16)
 have b:-16<n.tmod 16∧n.tmod 16<16:=by
  rw[a];split<;>omega
 refine⟨?_,b⟩
 rw[Int.tmod_eq_emod_of_nonneg (by omega),a]
 split<;>omega
theorem place_call (n:Int)(w:World) :
  Calls Tryz.prog 242 #[.int .i64 n] w fun e w'=>e=.returned (.int .i64 (placeZ n))∧w'=w:=by
 obtain⟨b,c,d⟩:=rest16 n
 have e:Hid ((n.tmod 16+16).tmod 16=n%16):=b
 clear b
 go_enter Tryz.func242,Tryz.ntmps242
 go_wp2
 all_goals go_ret
 all_goals (refine⟨ret_int ?_,rfl⟩;unfold placeZ;have b:=e.out;rw[Int.tmod_eq_emod_of_nonneg (by omega)] at b;exact b)
theorem cos_call (n:Int)(w:World) :
  Calls Tryz.prog 236 #[.int .i64 n] w fun e w'=>e=.returned (.int .i64 (cosZ n))∧Below w.heap.size w w':=by
 have p0:0≤placeZ n∧placeZ n<16:=by unfold placeZ;omega
 unfold cosZ
 generalize hp:placeZ n=p at *
 go_enter Tryz.func236,Tryz.ntmps236
 go_wp2_with (go_at_call 242;refine (place_call _ _).mono ?_;rintro e w' ⟨rfl,rfl⟩)
 go_ret
 exact⟨tab_get tabC _ _,bNw (Below.refl _ w) _⟩
theorem sin_call (n:Int)(w:World) :
  Calls Tryz.prog 237 #[.int .i64 n] w fun e w'=>e=.returned (.int .i64 (sinZ n))∧Below w.heap.size w w':=by
 have p0:0≤placeZ n∧placeZ n<16:=by unfold placeZ;omega
 unfold sinZ
 generalize hp:placeZ n=p at *
 go_enter Tryz.func237,Tryz.ntmps237
 go_wp2_with (go_at_call 242;refine (place_call _ _).mono ?_;rintro e w' ⟨rfl,rfl⟩)
 go_ret
 exact⟨tab_get tabS _ _,bNw (Below.refl _ w) _⟩
def turnA (a b n:Int):Int:=cZ (mulZ a (cosZ n)-mulZ b (sinZ n))
def turnB (a b n:Int):Int:=cZ (mulZ a (sinZ n)+mulZ b (cosZ n))
theorem tabC_bounds:∀ k:Nat,k<16→-65536≤tabC.getD k 0∧tabC.getD k 0≤65536:=by decide
theorem tabS_bounds:∀ k:Nat,k<16→-65536≤tabS.getD k 0∧tabS.getD k 0≤65536:=by decide
theorem cosZ_bounds (n:Int):-65536≤cosZ n∧cosZ n≤65536:=tabC_bounds _ (by unfold placeZ;omega)
theorem sinZ_bounds (n:Int):-65536≤sinZ n∧sinZ n≤65536:=tabS_bounds _ (by unfold placeZ;omega)
theorem mulZ_bounds (a b:Int):-2147483648≤mulZ a b∧mulZ a b≤2147483647:=cZb _
theorem turned_call (a b n:Int)(ha:(Lit.int .i64 a).wf=true)(hb:(Lit.int .i64 b).wf=true)(w:World) :
  Calls Tryz.prog 224 #[.int .i64 a,.int .i64 b,.int .i64 n] w fun e w'=>e=.returned (.tuple #[.int .i64 (turnA a b n),.int .i64 (turnB a b n)])∧Below w.heap.size w w':=by
 have cb:=cosZ_bounds n
 have sb:=sinZ_bounds n
 have kc:=fun W=>cos_call n W
 have ks:=fun W=>sin_call n W
 unfold turnA turnB
 obtain⟨C,eC⟩:∃ C,cosZ n=C:=⟨_,rfl⟩
 obtain⟨S,eS⟩:∃ S,sinZ n=S:=⟨_,rfl⟩
 rw[eC] at cb kc ⊢
 rw[eS] at sb ks ⊢
 clear eC eS
 have wC:(Lit.int .i64 C).wf=true:=WalkArith.wf_i64 ⟨by omega,by omega⟩
 have wS:(Lit.int .i64 S).wf=true:=WalkArith.wf_i64 ⟨by omega,by omega⟩
 obtain⟨p0,p1⟩:=mulZ_bounds a C
 obtain⟨q0,q1⟩:=mulZ_bounds b S
 obtain⟨r0,r1⟩:=mulZ_bounds a S
 obtain⟨s0,s1⟩:=mulZ_bounds b C
 have hb:=Below.refl w.heap.size w
 go_enter Tryz.func224,Tryz.ntmps224
 go_wp2_with (first
  | (go_at_call 236;refine (kc _).mono ?_;rintro e W1 ⟨rfl,hb1⟩)
  | (go_at_call 237;refine (ks _).mono ?_;rintro e W2 ⟨rfl,hb2⟩)
  | (go_at_call 185;refine (mul_call _ _ (by assumption) (by assumption) _).mono ?_;rintro e w' ⟨rfl,h⟩;obtain rfl:=h.symm)
  | (go_at_call 79;refine (cCa _ _).mono ?_;rintro e w' ⟨rfl,h⟩;obtain rfl:=h.symm))
 go_ret2
 exact⟨rfl,bTn hb1 hb2⟩
structure GridB (w:World) (a:Option Addr) (n:Nat) (A:Nat→Option Addr) (C:Nat→Nat) (R:Nat→List Int):Prop where
 max:n≤9223372036854775807
 some_:0<n→∃ x,a=some x
 cell:∀ x,a=some x→∀ r,r<n→w.cell? (x.add r)=some (.slice (A r) (R r).length (C r))
 row:∀ r,r<n→Reads .i8 w (A r) (R r).length (R r)
theorem GridB.below {w w':World}{a:Option Addr}{n:Nat}{A:Nat→Option Addr}{C:Nat→Nat}{R:Nat→List Int}(h:GridB w a n A C R)(hb:Below w.heap.size w w'):GridB w' a n A C R :=
 ⟨h.max,h.some_,fun x hx r hr=>(hb.cell (World.block_lt_of_cell? w _ (h.cell x hx r hr))).trans (h.cell x hx r hr),fun r hr=>(h.row r hr).below hb⟩
structure Nets (w:World) (a:Option Addr) (n:Nat) (A:Nat→Option Addr) (C:Nat→Nat) (R:Nat→List Int):Prop where
 grid:GridB w a n A C R
 cap:∀ r,r<n→(R r).length≤C r
 nil_:∀ r,r<n→A r=none→C r=0
 bnd:∀ r,r<n→(R r).length*8≤140737488355328
theorem Nets.below {w w':World}{a:Option Addr}{n:Nat}{A:Nat→Option Addr}{C:Nat→Nat}{R:Nat→List Int}(h:Nets w a n A C R)(hb:Below w.heap.size w w'):Nets w' a n A C R :=
 ⟨h.grid.below hb,h.cap,h.nil_,h.bnd⟩
theorem clampZ_of (x:Int)(h0:-2147483648≤x)(h1:x≤2147483647):cZ x=x:=by
 unfold cZ
 rw[if_neg (by omega),if_neg (by omega)]
theorem upperSig_call (x:Int)(h0:0≤x)(h1:x≤2147483648)(w:World) :
  Calls Tryz.prog 244 #[.int .i64 x] w fun e w'=>e=.returned (.int .i64 (upZ x))∧Below w.heap.size w w':=by
 have eb:=expZ_bounds (-x)
 unfold upZ
 obtain⟨v,ev⟩:∃ v,expZ (-x)=v:=⟨_,rfl⟩
 rw[ev] at eb ⊢
 obtain⟨e0,e1⟩:=eb
 have wv:(Lit.int .i64 (65536+v)).wf=true:=wf_i64_of (by omega) (by omega)
 go_enter Tryz.func244,Tryz.ntmps244
 go_wp2_with (first|(go_at_call 166;refine (exp_call _ _).mono ?_;rintro e w' ⟨rfl,hg⟩)|(go_at_call 154;refine (div_call _ _ (by first|assumption|decide) (by first|assumption|decide) _).mono ?_;rintro e w' ⟨rfl,rfl⟩))
 all_goals go_ret
 all_goals exact⟨rfl,by assumption⟩
theorem sig_call (x:Int)(w:World) :
  Calls Tryz.prog 243 #[.int .i64 x] w fun e w'=>e=.returned (.int .i64 (sigZ x))∧Below w.heap.size w w':=by
 have cb:=cZb x
 have b1:=upZ_bounds (-cZ x)
 unfold sigZ
 obtain⟨c,ec⟩:∃ c,cZ x=c:=⟨_,rfl⟩
 rw[ec] at cb b1 ⊢
 obtain⟨c0,c1⟩:=cb
 obtain⟨b0,b1⟩:=b1
 by_cases k:c<0
 ·rw[if_pos k]
  go_enter Tryz.func243,Tryz.ntmps243
  go_wp2_with (first|(go_at_call 79;refine (cCa _ _).mono ?_;rintro e w' ⟨rfl,rfl⟩)|(go_at_call 244;refine (upperSig_call _ (by omega) (by omega) _).mono ?_;rintro e w' ⟨rfl,hg⟩))
  all_goals go_ret
  all_goals exact⟨rfl,by assumption⟩
 ·rw[if_neg k]
  go_enter Tryz.func243,Tryz.ntmps243
  go_wp2_with (first|(go_at_call 79;refine (cCa _ _).mono ?_;rintro e w' ⟨rfl,rfl⟩)|(go_at_call 244;refine (upperSig_call _ (by omega) (by omega) _).mono ?_;rintro e w' ⟨rfl,hg⟩))
  all_goals go_ret
  all_goals exact⟨rfl,by assumption⟩
theorem silu_call (x:Int)(hx:(Lit.int .i64 x).wf=true)(w:World) :
  Calls Tryz.prog 240 #[.int .i64 x] w fun e w'=>e=.returned (.int .i64 (siluZ x))∧Below w.heap.size w w':=by
 have b:=sigZ_bounds x
 have wv:(Lit.int .i64 (sigZ x)).wf=true:=wf_i64_of (by omega) (by omega)
 unfold siluZ
 go_enter Tryz.func240,Tryz.ntmps240
 go_wp2_with (first|(go_at_call 243;refine (sig_call _ _).mono ?_;rintro e w' ⟨rfl,hg⟩)|(go_at_call 185;refine (mul_call _ _ (by first|assumption|decide) (by first|assumption|decide) _).mono ?_;rintro e w' ⟨rfl,rfl⟩))
 all_goals go_ret
 all_goals exact⟨rfl,by assumption⟩
def coolF (xs:List Int)(h:Int)(j:Nat):Int:=divZ (xs.getD ((places xs).getD j 0) 0) h
def coolZ (xs:List Int)(h:Int)(m:Nat):List Int:=(List.range m).map (coolF xs h)
def shZ (xs:List Int)(h:Int)(m:Nat):List Int:=softZ (coolZ xs h m) m
def upTo (p:List Int):Nat→Int
 | 0=>0
 | j+1=>upTo p j+p.getD j 0
def seatZ (p:List Int)(m:Nat)(r:Int):Nat:=((List.range m).find? fun i=>decide (r<upTo p (i+1))).getD 0
def manyZ (xs:List Int)(k:Int):Nat:=min k.toNat xs.length
def chooseZ (xs:List Int)(k h u:Int):Int :=
 if h<1∨k<2 then maxZ xs else if upTo (shZ xs h (manyZ xs k)) (manyZ xs k)=0 then maxZ xs
 else ((places xs).getD (seatZ (shZ xs h (manyZ xs k)) (manyZ xs k) (u%upTo (shZ xs h (manyZ xs k)) (manyZ xs k))) 0:Nat)
def Fair (p:List Int):Prop:=∀ j,0≤p.getD j 0∧p.getD j 0≤2147483647
theorem share_fair (z:List Int)(t S:Int)(hS:0≤S)(j:Nat):0≤shareF z t S j∧shareF z t S j≤2147483647:=by
 have b:=powE_bounds z t j
 unfold shareF divZ
 obtain⟨P,eP⟩:∃ P,powE z t j=P:=⟨_,rfl⟩
 rw[eP] at b ⊢
 have c:cZ P=P:=by unfold cZ;rw[if_neg (by omega),if_neg (by omega)]
 rw[c]
 split
 ·unfold noughtZ
  repeat' split
  all_goals omega
 ·rename_i hn
  have cb:=cZb S
  have c0:0≤cZ S:=by unfold cZ;repeat' split<;>omega
  obtain⟨C,eC⟩:∃ C,cZ S=C:=⟨_,rfl⟩
  rw[eC] at hn c0 cb ⊢
  have q0:0≤(P*65536).tdiv C:=Int.tdiv_nonneg (by omega) c0
  have q1:(P*65536).tdiv C≤P*65536:=by
   rw[Int.tdiv_eq_ediv_of_nonneg (by omega)]
   exact Int.ediv_le_self _ (by omega)
  obtain⟨Q,eQ⟩:∃ Q,(P*65536).tdiv C=Q:=⟨_,rfl⟩
  rw[eQ] at q0 q1 ⊢
  have ew:wrap64 Q=Q:=by rw[wrap64_eq];omega
  rw[ew]
  have cq:=cZb Q
  refine⟨?_,cq.2⟩
  unfold cZ
  repeat' split
  all_goals omega
theorem getD_range (f:Nat→Int)(m j:Nat)(h:j<m):((List.range m).map f).getD j 0=f j:=by simp[List.getD,h]
theorem getD_beyond (f:Nat→Int)(m j:Nat)(h:m≤j):((List.range m).map f).getD j 0=0:=by simp[List.getD,h]
theorem soft_fair (z:List Int)(m:Nat):Fair (softZ z m):=by
 intro j
 unfold softZ
 by_cases h:j<m
 ·rw[getD_range _ _ _ h]
  exact share_fair _ _ _ (sumE_bounds _ _ _).1 _
 ·rw[getD_beyond _ _ _ (by omega)]
  omega
theorem upTo_bounds {p:List Int}(hp:Fair p)(j:Nat):0≤upTo p j∧upTo p j≤2147483647*(j:Int):=by
 induction j with
 | zero=>exact⟨Int.le_refl _,by simp[upTo]⟩
 | succ j ih =>
  have h:=hp j
  show 0≤upTo p j+p.getD j 0∧upTo p j+p.getD j 0≤_
  omega
theorem upTo_succ (p:List Int)(j:Nat):upTo p (j+1)=upTo p j+p.getD j 0:=rfl
theorem upTo_mono {p : List Int} (hp : Fair p) {i j : Nat} (h : i ≤ j) : upTo p i ≤ upTo p j := by
  induction j with
  | zero => obtain rfl : i = 0 := by omega
            exact Int.le_refl _
  | succ j ih =>
    by_cases e : i = j + 1
    · rw [e]; exact Int.le_refl _
    · have := ih (by omega)
      have h := hp j
      rw [upTo_succ]
      omega
theorem seat_of {p:List Int}(hp:Fair p){m i:Nat}{r:Int}(hi:i<m)(h1:upTo p i≤r)(h2:r<upTo p (i+1)):seatZ p m r=i:=by
 have e:(List.range m).find? (fun i=>decide (r<upTo p (i+1)))=some i:=by
  rw[List.find?_range_eq_some]
  refine⟨decide_eq_true h2,List.mem_range.2 hi,fun j hj=>?_⟩
  have:=upTo_mono hp (show j+1≤i by omega)
  simp
  omega
 unfold seatZ
 rw[e]
 rfl
theorem seat_ex {p : List Int} {m : Nat} {r : Int} (h0 : 0 ≤ r) (h1 : r < upTo p m) : ∃ i, i < m ∧ upTo p i ≤ r ∧ r < upTo p (i + 1) := by
  induction m with
  | zero => have : upTo p 0 = 0 := rfl
            omega
  | succ m ih =>
    by_cases h : r < upTo p m
    · obtain ⟨i, hi, h2⟩ := ih h
      exact ⟨i, by omega, h2⟩
    · exact ⟨m, by omega, by omega, h1⟩
theorem seat_lt {p:List Int}(hp:Fair p){m:Nat}{r:Int}(h0:0≤r)(h1:r<upTo p m):seatZ p m r<m:=by
 obtain⟨i,hi,h2,h3⟩:=seat_ex h0 h1
 rw[seat_of hp hi h2 h3]
 exact hi
end Go.Proofs.YtbkjhfmehemgpaaGreat

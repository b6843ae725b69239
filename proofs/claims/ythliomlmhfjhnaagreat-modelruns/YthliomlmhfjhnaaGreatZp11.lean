/- Texts put together. -/
import Derived.Test.YthliomlmhfjhnaaGreatZp0
import Derived.Test.YthliomlmhfjhnaaGreatZp3
import Derived.Test.YthliomlmhfjhnaaGreatZp4
namespace Go.Proofs.YthliomlmhfjhnaaGreat
set_option maxRecDepth 20000
set_option maxHeartbeats 16000000
open Go.ChangeShapes Go.WideShapes Go.ChangeAt Go.RowKit
set_option linter.unusedVariables false
set_option linter.unusedSimpArgs false
theorem QaM (f:Int)(h0:0≤f)(h1:f<65536):32768≤Qbd f∧Qbd f≤65536:=by
 have s:=QbV (f/4096) (by omega) (by omega)
 have m:=Qbv (powZ (f/4096)-powZ (f/4096+1)) (f%4096) s.1 s.2.1 (by omega) (by omega)
 unfold Qbd
 omega
theorem QbT {n:Int}(h0:-9223372036854775808≤n)(h1:n≤9223372036854775807):(Lit.int .i64 n).wf=true:=WalkArith.wf_i64 ⟨h0,h1⟩
theorem QiW (x:Int)(w:World) :
  Calls Tryz.prog 134 #[I4 x] w fun e w'=>e=.returned (I4 (expZ x))∧Bw w w':=by
 have tb:=Qci x
 have cb:=cZb x
 have m:mulZ (min (cZ x) 0) 94548 = -tZ x:=by unfold tZ;omega
 have fb:=QaM (tZ x%65536) (by omega) (by omega)
 unfold expZ
 obtain⟨t,et⟩:∃ t,tZ x=t:=⟨_,rfl⟩
 obtain⟨c,ec⟩:∃ c,cZ x=c:=⟨_,rfl⟩
 rw[et] at tb m fb ⊢
 rw[ec] at cb m
 have wc:(Lit.int .i64 c).wf=true:=QbT (by omega) (by omega)
 obtain⟨t0,t1⟩:=tb
 obtain⟨c0,c1⟩:=cb
 obtain⟨f0,f1⟩:=fb
 clear et
 by_cases k:16<t/65536
 ·rw[if_pos k]
  rcases Int.lt_trichotomy c 0 with h|h|h
  ·have e:min c 0=c:=by omega
   rw[e] at m;clear e
   go_enter Tryz.func134,Tryz.ntmps134
   go_wp2_with (first|(go_at_call 114;refine (cCa _ _).mono ?_;rintro e w' ⟨rfl,rfl⟩)|(go_at_call 104;refine (mul_call _ _ (by first|assumption|decide) (by decide) _).mono ?_;rintro e w' ⟨rfl,rfl⟩))
   all_goals go_ret
   all_goals exact⟨rfl,Below.refl _ _⟩
  ·have e:min c 0=0:=by omega
   rw[e] at m;clear e;subst h
   go_enter Tryz.func134,Tryz.ntmps134
   go_wp2_with (first|(go_at_call 114;refine (cCa _ _).mono ?_;rintro e w' ⟨rfl,rfl⟩)|(go_at_call 104;refine (mul_call _ _ (by first|assumption|decide) (by decide) _).mono ?_;rintro e w' ⟨rfl,rfl⟩))
   all_goals go_ret
   all_goals exact⟨rfl,Below.refl _ _⟩
  ·have e:min c 0=0:=by omega
   rw[e] at m;clear e
   go_enter Tryz.func134,Tryz.ntmps134
   go_wp2_with (first|(go_at_call 114;refine (cCa _ _).mono ?_;rintro e w' ⟨rfl,rfl⟩)|(go_at_call 104;refine (mul_call _ _ (by first|assumption|decide) (by decide) _).mono ?_;rintro e w' ⟨rfl,rfl⟩))
   all_goals go_ret
   all_goals exact⟨rfl,Below.refl _ _⟩
 ·rw[if_neg k]
  rcases Int.lt_trichotomy c 0 with h|h|h
  ·have e:min c 0=c:=by omega
   rw[e] at m;clear e
   go_enter Tryz.func134,Tryz.ntmps134
   go_wp2_with (first|(go_at_call 114;refine (cCa _ _).mono ?_;rintro e w' ⟨rfl,rfl⟩)|(go_at_call 104;refine (mul_call _ _ (by first|assumption|decide) (by decide) _).mono ?_;rintro e w' ⟨rfl,rfl⟩)|(go_at_call 148;refine (between_call _ (by omega) (by omega) _).mono ?_;rintro e w' ⟨rfl,hg⟩))
   all_goals go_ret
   all_goals exact⟨rfl,by assumption⟩
  ·have e:min c 0=0:=by omega
   rw[e] at m;clear e;subst h
   go_enter Tryz.func134,Tryz.ntmps134
   go_wp2_with (first|(go_at_call 114;refine (cCa _ _).mono ?_;rintro e w' ⟨rfl,rfl⟩)|(go_at_call 104;refine (mul_call _ _ (by first|assumption|decide) (by decide) _).mono ?_;rintro e w' ⟨rfl,rfl⟩)|(go_at_call 148;refine (between_call _ (by omega) (by omega) _).mono ?_;rintro e w' ⟨rfl,hg⟩))
   all_goals go_ret
   all_goals exact⟨rfl,by assumption⟩
  ·have e:min c 0=0:=by omega
   rw[e] at m;clear e
   go_enter Tryz.func134,Tryz.ntmps134
   go_wp2_with (first|(go_at_call 114;refine (cCa _ _).mono ?_;rintro e w' ⟨rfl,rfl⟩)|(go_at_call 104;refine (mul_call _ _ (by first|assumption|decide) (by decide) _).mono ?_;rintro e w' ⟨rfl,rfl⟩)|(go_at_call 148;refine (between_call _ (by omega) (by omega) _).mono ?_;rintro e w' ⟨rfl,hg⟩))
   all_goals go_ret
   all_goals exact⟨rfl,by assumption⟩
theorem Qbz (x:Int):0≤expZ x∧expZ x≤65536:=by
 have tb:=Qci x
 have fb:=QaM (tZ x%65536) (by omega) (by omega)
 unfold expZ
 split
 ·omega
 ·have d:=Qa8 (Qbd (tZ x%65536)) (tZ x/65536).toNat (by omega)
  omega
def upZ (x:Int):Int:=divZ 65536 (65536+expZ (-x))
def sigZ (x:Int):Int:=if cZ x<0 then 65536-upZ (-cZ x) else upZ (cZ x)
theorem QnL (x:Int):upZ x=4294967296/(65536+expZ (-x)):=by
 have eb:=Qbz (-x)
 unfold upZ
 obtain⟨v,ev⟩:∃ v,expZ (-x)=v:=⟨_,rfl⟩
 rw[ev] at eb ⊢
 obtain⟨d,ed⟩:∃ d,65536+v=d:=⟨_,rfl⟩
 rw[ed]
 have d0:65536≤d:=by omega
 have d1:d≤131072:=by omega
 have e1:cZ d=d:=by unfold cZ;(repeat' split);all_goals omega
 have e2:cZ 65536=65536:=by decide
 have q0:0≤4294967296/d:=Int.ediv_nonneg (by decide) (by omega)
 have q1:4294967296/d≤65536:=by
  have:4294967296/d<65537:=Int.ediv_lt_of_lt_mul (by omega) (by omega)
  omega
 unfold divZ
 rw[e1,e2,if_neg (by omega),Int.tdiv_eq_ediv_of_nonneg (by decide)]
 show cZ (wrap64 (4294967296/d))=4294967296/d
 generalize 4294967296/d=Q at *
 rw[QcY]
 unfold cZ
 repeat' split
 all_goals omega
theorem Qcs (x:Int):32768≤upZ x∧upZ x≤65536:=by
 rw[QnL]
 have eb:=Qbz (-x)
 generalize expZ (-x)=v at *
 refine⟨?_,?_⟩
 ·exact Int.le_ediv_of_mul_le (by omega) (by omega)
 ·have:4294967296/(65536+v)<65537:=Int.ediv_lt_of_lt_mul (by omega) (by omega)
  omega
theorem Qeq (x:Int):0≤sigZ x∧sigZ x≤65536:=by
 have b1:=Qcs (-cZ x)
 have b2:=Qcs (cZ x)
 unfold sigZ
 split<;>omega
def siluZ (x:Int):Int:=mulZ x (sigZ x)
def topZ (b:Int)(z:List Int):Nat→Int
 | 0=>b
 | k+1=>max (topZ b z k) (cZ (z.getD k 0))
theorem oBe {w w':World}{B:Nat}{e:TypeId}{v:Value}{n:Nat}{xs:List Value}(h:w.ownsRow B e 1 v n xs)(hb:Bw w w'):w'.ownsRow B e 1 v n xs :=
 h.kept (row:=none) ⟨hb.os,hb.tape,hb.output,hb.size,fun k hk _=>hb.block k hk⟩ (by
  cases v.ownBlock with
  | none=>exact .inl rfl
  | some g=>exact .inr (fun e=>by cases e))
theorem Qf5 (a0:Option Addr)(n c0:Nat)(zs:List Int)(w:World)(h0:Reads .i64 w a0 n zs) :
  Calls Tryz.prog 133 #[.slice a0 n c0] w fun e w'=>e=.returned (I4 (topZ (-2147483648) zs n))∧w'=w:=by
 have hm:=h0.max
 go_enter Tryz.func133,Tryz.ntmps133
 go_wp2
 go_loopw [3,7] (fun s i wr=>∃ k:Nat,k≤n∧i=I4 k∧s=I4 (topZ (-2147483648) zs k)∧wr=w) (fun _ i _=>n-(intOf i).toNat)
 case atStart=>exact⟨0,Nat.zero_le _,rfl,rfl,rfl⟩
 case round =>
  obtain⟨k,hk,rfl,rfl,hw⟩:=hrel
  subst hw
  by_cases hlt:k<n
  ·obtain⟨x,rfl⟩:=h0.some_ (by omega)
   have cx:=h0.cell x rfl k hlt
   have es:topZ (-2147483648) zs (k+1)=max (topZ (-2147483648) zs k) (cZ (zs.getD k 0)):=rfl
   obtain⟨Z,eZ⟩:∃ Z,zs.getD k 0=Z:=⟨_,rfl⟩
   obtain⟨S,eS⟩:∃ S,topZ (-2147483648) zs k=S:=⟨_,rfl⟩
   rw[eZ] at cx es
   rw[eS] at es ⊢
   obtain⟨C,eC⟩:∃ C,cZ Z=C:=⟨_,rfl⟩
   have kc:=fun W=>cCa Z W
   rw[eC] at es kc
   have Es:Hid (topZ (-2147483648) zs (k+1)=max S C):=es
   clear eZ eS es eC
   rcases Int.lt_trichotomy S C with h|h|h
   ·go_wp2_with (go_at_call 114;refine (kc _).mono ?_;rintro e w' ⟨rfl,h⟩;obtain rfl:=h.symm)
    all_goals
     go_roundw
     case rel=>exact⟨k+1,by omega,by go_num,by rw[Es.out];congr 1;omega,trivial⟩
     case measure=>simp[intOf];omega
   ·subst h
    go_wp2_with (go_at_call 114;refine (kc _).mono ?_;rintro e w' ⟨rfl,h⟩;obtain rfl:=h.symm)
    all_goals
     go_roundw
     case rel=>exact⟨k+1,by omega,by go_num,by rw[Es.out];congr 1;omega,trivial⟩
     case measure=>simp[intOf];omega
   ·go_wp2_with (go_at_call 114;refine (kc _).mono ?_;rintro e w' ⟨rfl,h⟩;obtain rfl:=h.symm)
    all_goals
     go_roundw
     case rel=>exact⟨k+1,by omega,by go_num,by rw[Es.out];congr 1;omega,trivial⟩
     case measure=>simp[intOf];omega
  ·have e:k=n:=by omega
   subst e
   go_wp2
   go_ret
   exact⟨rfl,rfl⟩
theorem Qel (b:Int)(z:List Int)(hb:b≤2147483647)(n:Nat):topZ b z n≤2147483647∧(0<n→-2147483648≤topZ b z n)∧b≤topZ b z n:=by
 induction n with
 | zero=>exact⟨hb,fun h=>by omega,Int.le_refl _⟩
 | succ n ih =>
  have c:=cZb (z.getD n 0)
  obtain⟨i1,i2,i3⟩:=ih
  show max (topZ b z n) (cZ (z.getD n 0))≤_∧(_→_≤max (topZ b z n) (cZ (z.getD n 0)))∧b≤max (topZ b z n) (cZ (z.getD n 0))
  clear i2
  omega
def powE (z:List Int)(t:Int)(j:Nat):Int:=expZ (cZ (z.getD j 0)-t)
def sumE (z:List Int)(t:Int):Nat→Int
 | 0=>0
 | k+1=>sumE z t k+powE z t k
theorem Qa6 (z:List Int)(t:Int)(j:Nat):0≤powE z t j∧powE z t j≤65536:=Qbz _
theorem Qb0 (z:List Int)(t:Int)(k:Nat):0≤sumE z t k∧sumE z t k≤65536*(k:Int):=by
 induction k with
 | zero=>exact⟨Int.le_refl _,by simp[sumE]⟩
 | succ k ih =>
  have p:=Qa6 z t k
  show 0≤sumE z t k+powE z t k∧sumE z t k+powE z t k≤_
  omega
def QaW (z:List Int)(t S:Int)(j:Nat):Int:=divZ (powE z t j) S
theorem Qj9 (a b:Int):(Lit.int .i64 (divZ a b)).wf=true:=by
 unfold divZ
 split
 ·refine WalkArith.wf_i64 ?_
  unfold Qb6
  repeat' split
  all_goals omega
 ·exact wCz _
def QbE (z:List Int)(n:Nat):List Int:=(List.range n).map (QaW z (topZ (-2147483648) z n) (sumE z (topZ (-2147483648) z n) n))
theorem Qgn (a0 : Option Addr) (n c0 : Nat) (zs : List Int) (w : World) (h0 : Reads .i64 w a0 n zs) (hb : n * 8 ≤ 281474976710656) :
    Calls Tryz.prog 118 #[.slice a0 n c0] w fun e w' => (∃ a c, e = .returned (.slice a n c) ∧ Reads .i64 w' a n (QbE zs n)) ∧ Bw w w' := by
  obtain ⟨i0, hi, hz0, hz1, hz2⟩ := info_parts QaT
  have hm := h0.max
  have kg := Qf5 a0 n c0 zs w h0
  have tb := Qel (-2147483648) zs (by decide) n
  unfold QbE
  obtain ⟨T, eT⟩ : ∃ T, topZ (-2147483648) zs n = T := ⟨_, rfl⟩
  rw [eT] at kg tb ⊢
  clear eT
  obtain ⟨tb1, -, tb0⟩ := tb
  go_enter Tryz.func118, Tryz.ntmps118
  go_wp2_with (first
    | (go_at_call 133; refine kg.mono ?_; rintro e w' ⟨rfl, h⟩; obtain rfl := h.symm)
    | (at_make; refine wpList_make_full _ rfl (.tmp 11) (.tmp 11) 34 rfl w.heap.size 2 i0 (I4 0) 1 Tryz.underlying34 hi hz0 hz1 .i64 .i64 _ _ n rfl rfl rfl rfl (by rw [hz2]; omega) (by unfold maxLen; omega) nL ?_; intro w1 hown hgrow))
  have hbel : Bw w w1 := bR.grown hgrow nL (fun k h => by cases h)
  go_wp2
  go_loopw [5, 15] (fun s i wr => ∃ k : Nat, k ≤ n ∧ i = I4 k ∧ s = I4 (sumE zs T k) ∧ Bw w wr ∧ ∃ cs, wr.ownsRow w.heap.size 2 1 (.slice (some ⟨w.heap.size, 0, none⟩) n n) n cs ∧ ∀ j, j < k → cs[j]? = some (I4 (powE zs T j))) (fun _ i _ => n - (intOf i).toNat)
  case atStart => exact ⟨0, Nat.zero_le _, rfl, rfl, hbel, _, hown, fun j hj => by omega⟩
  case round =>
    obtain ⟨k, hk, rfl, rfl, hbr, cs, ho, hcs⟩ := hrel
    by_cases hlt : k < n
    · have hr := h0.below hbr
      obtain ⟨x, rfl⟩ := h0.some_ (by omega)
      have cx := hr.cell x rfl k hlt
      have hlen := oLe ho
      have sb := Qb0 zs T k
      have pb := Qa6 zs T k
      have ep : powE zs T k = expZ (cZ (zs.getD k 0) - T) := rfl
      have es : sumE zs T (k + 1) = sumE zs T k + powE zs T k := rfl
      have cb := cZb (zs.getD k 0)
      have kc := fun W => cCa (zs.getD k 0) W
      have ke := fun W => QiW (cZ (zs.getD k 0) - T) W
      obtain ⟨E, eE⟩ : ∃ E, powE zs T k = E := ⟨_, rfl⟩
      obtain ⟨S, eS⟩ : ∃ S, sumE zs T k = S := ⟨_, rfl⟩
      rw [← ep] at ke
      rw [eE] at pb es ke
      rw [eS] at sb es ⊢
      have step := fun (W : World) (hs : W.ownsRow w.heap.size 2 1 (.slice (some ⟨w.heap.size, 0, none⟩) n n) n cs) => And.intro (hs.stored k (I4 E)).1 (set_step (F := fun j => Value.int .i64 (powE zs T j)) hlen hlt (show Value.int .i64 E = I4 (powE zs T k) by rw [eE]) hcs)
      obtain ⟨C, eC⟩ : ∃ C, cZ (zs.getD k 0) = C := ⟨_, rfl⟩
      rw [eC] at cb kc ke
      obtain ⟨X, eX⟩ : ∃ X, zs.getD k 0 = X := ⟨_, rfl⟩
      rw [eX] at cx kc
      obtain ⟨u, hu⟩ : ∃ u, cs[k]? = some u := ⟨cs[k], by simp [hlen, hlt]⟩
      obtain ⟨s0, s1⟩ := sb
      obtain ⟨p0, p1⟩ := pb
      obtain ⟨q0, q1⟩ := cb
      have Es : Hid (sumE zs T (k + 1) = S + E) := es
      clear es eE eS eC eX ep hr hown hgrow hbel hi hz0 hz1 hz2 kg
      go_wp2_with (first
        | (go_at_call 114; refine (kc _).mono ?_; rintro e w' ⟨rfl, h⟩; obtain rfl := h.symm)
        | (go_at_call 134; refine (ke _).mono ?_; rintro e W2 ⟨rfl, hb2⟩
           have ho2 := oBe ho hb2
           have cell2 : W2.cell? ⟨w.heap.size, k, none⟩ = some u := (ho2.cellAt k (by omega)).trans hu
           have froz2 := ho2.frozenAt k
           have st2 := step W2 ho2
           have cell3 : (W2.setCell ⟨w.heap.size, k, none⟩ (I4 E)).cell? ⟨w.heap.size, k, none⟩ = some (I4 E) := by
             rw [st2.1.cellAt k (by omega)]; simp [hlen, hlt]
           have R : Hid (Bw w (W2.setCell ⟨w.heap.size, k, none⟩ (I4 E)) ∧ ∃ cs', (W2.setCell ⟨w.heap.size, k, none⟩ (I4 E)).ownsRow w.heap.size 2 1 (.slice (some ⟨w.heap.size, 0, none⟩) n n) n cs' ∧ ∀ j, j < k + 1 → cs'[j]? = some (I4 (powE zs T j))) :=
             ⟨(bTn hbr hb2).setCell nL _, _, st2.1, st2.2⟩
           clear ho2 st2 hb2))
      go_roundw
      case rel => exact ⟨k + 1, by omega, by go_num, by rw [Es.out], R.out⟩
      case measure => simp [intOf]; omega
    · have e : k = n := by omega
      subst e
      rename World => W1
      have sb := Qb0 zs T k
      obtain ⟨S, eS⟩ : ∃ S, sumE zs T k = S := ⟨_, rfl⟩
      have ES : Hid (sumE zs T k = S) := eS
      rw [eS] at sb ⊢
      clear eS
      have wS : (Lit.int .i64 S).wf = true := WalkArith.wf_i64 ⟨by omega, by omega⟩
      go_wp2
      go_loopw [38] (fun i wr => ∃ j : Nat, j ≤ k ∧ i = I4 j ∧ Bw w wr ∧ ∃ ds, wr.ownsRow w.heap.size 2 1 (.slice (some ⟨w.heap.size, 0, none⟩) k k) k ds ∧ (∀ i, i < j → ds[i]? = some (I4 (QaW zs T S i))) ∧ ∀ i, j ≤ i → i < k → ds[i]? = some (I4 (powE zs T i))) (fun i _ => k - (intOf i).toNat)
      case atStart => exact ⟨0, Nat.zero_le _, rfl, hbr, _, ho, fun j hj => by omega, fun i _ hi => hcs i hi⟩
      case round =>
        clear hcs ho hbr
        obtain ⟨j, hj, rfl, hbr, ds, ho, h1, h2⟩ := hrel
        by_cases hlt : j < k
        · have hlen := oLe ho
          have cell : wr.cell? ⟨w.heap.size, j, none⟩ = some (I4 (powE zs T j)) := (ho.cellAt j (by omega)).trans (h2 j nL hlt)
          have froz := ho.frozenAt j
          have pb := Qa6 zs T j
          have kd := fun (w' : (Lit.int .i64 (powE zs T j)).wf = true) W => div_call (powE zs T j) S w' wS W
          have ef : divZ (powE zs T j) S = QaW zs T S j := rfl
          rw [ef] at kd
          have R : Hid (Bw w (wr.setCell ⟨w.heap.size, j, none⟩ (I4 (QaW zs T S j))) ∧ ∃ ds', (wr.setCell ⟨w.heap.size, j, none⟩ (I4 (QaW zs T S j))).ownsRow w.heap.size 2 1 (.slice (some ⟨w.heap.size, 0, none⟩) k k) k ds' ∧ (∀ i, i < j + 1 → ds'[i]? = some (I4 (QaW zs T S i))) ∧ ∀ i, j + 1 ≤ i → i < k → ds'[i]? = some (I4 (powE zs T i))) :=
            ⟨hbr.setCell nL _, _, (ho.stored j _).1, set_step (F := fun i => Value.int .i64 (QaW zs T S i)) hlen hlt rfl h1, fun i h hi => by rw [List.getElem?_set_ne (by omega)]; exact h2 i (by omega) hi⟩
          obtain ⟨E, eE⟩ : ∃ E, powE zs T j = E := ⟨_, rfl⟩
          obtain ⟨G, eG⟩ : ∃ G, QaW zs T S j = G := ⟨_, rfl⟩
          rw [eE] at cell pb kd
          rw [eG] at kd R
          have wE : (Lit.int .i64 E).wf = true := WalkArith.wf_i64 ⟨by omega, by omega⟩
          clear eE eG ef h1 h2 ho hlen hbr hown hgrow hbel hi hz0 hz1 hz2 kg
          go_wp2_with (go_at_call 135; refine (kd wE _).mono ?_; rintro e w' ⟨rfl, h⟩; obtain rfl := h.symm)
          go_roundw
          case rel => exact ⟨j + 1, by omega, by go_num, R.out⟩
          case measure => simp [intOf]; omega
        · have e : j = k := by omega
          subst e
          have fin := oRa (zs := (List.range j).map (QaW zs T (sumE zs T j))) ho (by simp) (fun z hz => by obtain ⟨y, _, rfl⟩ := List.mem_map.1 hz; exact Qj9 _ _) (fun i hi => by rw [h1 i hi, ES.out]; simp [hi])
          clear h1 h2 ho
          go_wp2
          go_ret
          exact ⟨⟨_, _, rfl, fin⟩, hbr⟩
theorem Qcl:(Tryz.prog.info? 34).map (fun i=>(i.zero,i.size,i.bytes))=some (some (.slice none 0 0),1,24):=by kernel_rfl
def Qdb (A:Nat→Option Addr)(C:Nat→Nat)(R:Nat→List Int)(k:Nat):List Value:=(List.range k).map fun r=>.slice (A r) (R r).length (C r)
theorem Qim {A A':Nat→Option Addr}{C C':Nat→Nat}{R:Nat→List Int}{k:Nat}(h:∀ r,r<k→A r=A' r∧C r=C' r):Qdb A C R k=Qdb A' C' R k:=by
 unfold Qdb
 refine List.map_congr_left fun r hr=>?_
 rw[(h r (List.mem_range.1 hr)).1,(h r (List.mem_range.1 hr)).2]
theorem QjE (A:Nat→Option Addr)(C:Nat→Nat)(R:Nat→List Int)(k:Nat):Qdb A C R (k+1)=Qdb A C R k++[.slice (A k) (R k).length (C k)]:=by
 simp[Qdb,List.range_succ]
structure Qab (B:Nat) (w:World) (v:Value) (k:Nat) (A:Nat→Option Addr) (C:Nat→Nat) (R:Nat→List Int):Prop where
 own:w.ownsRow B 34 1 v k (Qdb A C R k)
 row:∀ r,r<k→Reads .i64 w (A r) (R r).length (R r)
 apart:∀ r,r<k→0<(R r).length→∀ x,A r=some x→∀ g,v.ownBlock=some g→x.block≠g
theorem Qab.nil (B:Nat)(w:World)(A:Nat→Option Addr)(C:Nat→Nat)(R:Nat→List Int):Qab B w (.slice none 0 0) 0 A C R :=
 ⟨World.ownsRow_nil _ _ _ _,fun r h=>by omega,fun r h=>by omega⟩
theorem Qab.below {B:Nat}{w w':World}{v:Value}{k:Nat}{A:Nat→Option Addr}{C:Nat→Nat}{R:Nat→List Int}(h:Qab B w v k A C R)(hb:Bw w w'):Qab B w' v k A C R :=
 ⟨oBe h.own hb,fun r hr=>(h.row r hr).below hb,h.apart⟩
theorem Reads.grown {k:IntKind}{w w':World}{a:Option Addr}{n:Nat}{zs:List Int}{row:Option Nat}(h:Reads k w a n zs)(hg:w.grownBy w' row)(ha:0<n→∀ x,a=some x→∀ g,row=some g→x.block≠g):Reads k w' a n zs :=
 ⟨h.len,h.max,h.wf,h.some_,fun x hx i hi=>hg.cell (h.cell x hx i hi) (fun e=>by
  exact ha (by omega) x hx _ e.symm (by simp only[Addr.add];split<;>rfl))⟩
theorem Qab.app {B:Nat}{w w':World}{v v':Value}{k:Nat}{A:Nat→Option Addr}{C:Nat→Nat}{R:Nat→List Int}(h:Qab B w v k A C R){p:Option Addr}{c:Nat}{V:Value}(hV:V=.slice p (R k).length c)
  (hr:Reads .i64 w p (R k).length (R k)) (hp:0<(R k).length→∀ x,p=some x→∀ g,v.ownBlock=some g→x.block≠g)
  (ho:w'.ownsRow B 34 1 v' (k+1) (Qdb A C R k++[V])) (hg:w.grownBy w' v.ownBlock) (hs:Qe6 w v v') :
  Qab B w' v' (k+1) (fun r=>if r=k then p else A r) (fun r=>if r=k then c else C r) R:=by
 subst hV
 have cell_lt:∀ (a:Option Addr) (zs:List Int),Reads .i64 w a zs.length zs→0<zs.length→∀ x,a=some x→x.block<w.heap.size:=fun a zs q h0 x hx=>by
  have:=World.block_lt_of_cell? w _ (q.cell x hx 0 h0)
  simpa [Addr.add] using this
 have new:∀ (a:Option Addr) (zs:List Int),Reads .i64 w a zs.length zs→(0<zs.length→∀ x,a=some x→∀ g,v.ownBlock=some g→x.block≠g)→(0<zs.length→∀ x,a=some x→∀ g,v'.ownBlock=some g→x.block≠g):=fun a zs q hh h0 x hx g hg'=>by
  rcases hs with e|e
  ·exact hh h0 x hx g (e ▸ hg')
  ·have h1:=e g hg'
   have h2:=cell_lt a zs q h0 x hx
   omega
 refine⟨?_,fun r hr'=>?_,fun r hr' h0 x hx g hg'=>?_⟩
 ·rw[QjE]
  rw[Qim (A':=A) (C':=C) (fun r hr=>by simp only[if_neg (show r≠k by omega),and_self])]
  simpa using ho
 ·by_cases e:r=k
  ·subst e
   simp only[if_true]
   exact hr.grown hg hp
  ·simp only[if_neg e]
   exact (h.row r (by omega)).grown hg (h.apart r (by omega))
 ·by_cases e:r=k
  ·subst e
   simp only[if_true] at hx
   exact new p (R r) hr hp h0 x hx g hg'
  ·simp only[if_neg e] at hx
   exact new (A r) (R r) (h.row r (by omega)) (h.apart r (by omega)) h0 x hx g hg'
theorem Qab.grid {B:Nat}{w:World}{v:Value}{k:Nat}{A:Nat→Option Addr}{C:Nat→Nat}{R:Nat→List Int}(h:Qab B w v k A C R):∃ a c,v=.slice a k c∧Grid w a k A C R:=by
 rcases h.own.2 with⟨rfl,rfl⟩|⟨g,cap,cur,rfl,_,hg,hn,hm,hs,ht⟩
 ·exact⟨none,0,rfl,by omega,fun h=>by omega,fun x hx=>(by cases hx),fun r hr=>by omega⟩
 ·refine⟨_,_,rfl,by unfold maxLen at hm;omega,fun _=>⟨_,rfl⟩,fun x hx r hr=>?_,h.row⟩
  obtain rfl:=Option.some.inj hx
  exact h.own.cells (g:=g) rfl r _ (by simp[Qdb,hr])
section
def Only (b:Nat)(w w':World):Prop:=w.grownBy w' (some b)
theorem Only.refl (b:Nat)(w:World):Only b w w:=⟨rfl,rfl,rfl,Nat.le_refl _,fun _ _ _=>rfl⟩
theorem Only.trans {b:Nat}{w w' w'':World}(h:Only b w w')(k:Only b w' w''):Only b w w'' :=
 ⟨k.os.trans h.os,k.tape.trans h.tape,k.output.trans h.output,Nat.le_trans h.size k.size,fun i hi hn=>(k.block i (Nat.lt_of_lt_of_le hi h.size) hn).trans (h.block i hi hn)⟩
theorem Only.set (b o:Nat)(w:World)(v:Value):Only b w (w.setCell ⟨b,o,none⟩ v) :=
 ⟨rfl,rfl,rfl,by simp[World.setCell],fun k _ hn=>Below.heap_setCell _ _ _ _ (fun e=>hn (by rw[e]))⟩
theorem Only.of_below {b:Nat}{w w':World}(h:Bw w w'):Only b w w':=⟨h.os,h.tape,h.output,h.size,fun k hk _=>h.block k hk⟩
theorem Only.below {B b:Nat}{w w' w'':World}(h:Below B w w')(hB:B≤b)(hw:B≤w'.heap.size)(k:Only b w' w''):Below B w w'' :=
 h.grown k hw (fun i hi=>by obtain rfl:=Option.some.inj hi;exact hB)
theorem Only.drewN {b:Nat}{w w':World}(h:Only b w w')(m:Nat):Only b w (w'.drewN m):=⟨h.os,h.tape,h.output,h.size,h.block⟩
variable {t:TypeId}{w w':World}{b:Nat}{s:ByteArray}{e:Int}
theorem Reads.other {k:IntKind}{c:Nat}{a:Option Addr}{n:Nat}{zs:List Int}(h:Reads k w a n zs)(hb:Only c w w')(hc:∀ x,a=some x→0<n→x.block≠c):Reads k w' a n zs :=
 ⟨h.len,h.max,h.wf,h.some_,fun x hx i hi=>hb.cell (h.cell x hx i hi) (fun e=>hc x hx (by omega) (by by_cases hz:i=0<;>simpa [Addr.add,hz] using e))⟩
end
def Qke (a b n:Int):Int:=cZ (mulZ a (cosZ n)-mulZ b (sinZ n))
def Qkd (a b n:Int):Int:=cZ (mulZ a (sinZ n)+mulZ b (cosZ n))
theorem Qhu:∀ k:Nat,k<16→-65536≤tabC.getD k 0∧tabC.getD k 0≤65536:=by decide
theorem Qht:∀ k:Nat,k<16→-65536≤tabS.getD k 0∧tabS.getD k 0≤65536:=by decide
theorem Qe3 (n:Int):-65536≤cosZ n∧cosZ n≤65536:=Qhu _ (by unfold QaJ;omega)
theorem Qep (n:Int):-65536≤sinZ n∧sinZ n≤65536:=Qht _ (by unfold QaJ;omega)
theorem QaA (a b:Int):-2147483648≤mulZ a b∧mulZ a b≤2147483647:=cZb _
theorem Qhr (a b n:Int)(ha:(Lit.int .i64 a).wf=true)(hb:(Lit.int .i64 b).wf=true)(w:World) :
  Calls Tryz.prog 132 #[I4 a,I4 b,I4 n] w fun e w'=>e=.returned (.tuple #[I4 (Qke a b n),I4 (Qkd a b n)])∧Bw w w':=by
 have cb:=Qe3 n
 have sb:=Qep n
 have kc:=fun W=>QmA n W
 have ks:=fun W=>QlW n W
 unfold Qke Qkd
 obtain⟨C,eC⟩:∃ C,cosZ n=C:=⟨_,rfl⟩
 obtain⟨S,eS⟩:∃ S,sinZ n=S:=⟨_,rfl⟩
 rw[eC] at cb kc ⊢
 rw[eS] at sb ks ⊢
 clear eC eS
 have wC:(Lit.int .i64 C).wf=true:=WalkArith.wf_i64 ⟨by omega,by omega⟩
 have wS:(Lit.int .i64 S).wf=true:=WalkArith.wf_i64 ⟨by omega,by omega⟩
 obtain⟨p0,p1⟩:=QaA a C
 obtain⟨q0,q1⟩:=QaA b S
 obtain⟨r0,r1⟩:=QaA a S
 obtain⟨s0,s1⟩:=QaA b C
 have hb:=Below.refl w.heap.size w
 go_enter Tryz.func132,Tryz.ntmps132
 go_wp2_with (first
  | (go_at_call 146;refine (kc _).mono ?_;rintro e W1 ⟨rfl,hb1⟩)
  | (go_at_call 147;refine (ks _).mono ?_;rintro e W2 ⟨rfl,hb2⟩)
  | (go_at_call 104;refine (mul_call _ _ (by assumption) (by assumption) _).mono ?_;rintro e w' ⟨rfl,h⟩;obtain rfl:=h.symm)
  | (go_at_call 114;refine (cCa _ _).mono ?_;rintro e w' ⟨rfl,h⟩;obtain rfl:=h.symm))
 go_ret2
 exact⟨rfl,bTn hb1 hb2⟩
theorem QfY (x:Int):mulZ (min 0 x) 94548 = -tZ x:=by
 have e:cZ (min 0 x)=cZ (min (cZ x) 0):=by
  unfold cZ
  repeat' split
  all_goals omega
 unfold tZ mulZ
 rw[e];omega
theorem Qjm (x:Int)(wx:(Lit.int .i64 x).wf=true)(h:x<0)(w:World) :
  Calls Tryz.prog 142 #[I4 x] w fun e w'=>e=.returned (I4 (expZ x))∧Bw w w':=by
 have tb:=Qci x
 have m:=QfY x
 unfold expZ
 obtain⟨t,et⟩:∃ t,tZ x=t:=⟨_,rfl⟩
 rw[et] at tb m ⊢
 clear et
 obtain⟨t0,t1⟩:=tb
 have f0:0≤t%65536:=by omega
 have f1:t%65536<65536:=by omega
 have i0:0≤t%65536/4096:=by omega
 have i1:t%65536/4096<17:=by omega
 have i2:t%65536/4096+1<17:=by omega
 have s:=QbV (t%65536/4096) i0 (by omega)
 have mm:=Qbv (powZ (t%65536/4096)-powZ (t%65536/4096+1)) (t%65536%4096) s.1 s.2.1 (by omega) (by omega)
 have fb:=QaM (t%65536) (by omega) (by omega)
 unfold Qbd at fb ⊢
 obtain⟨p,ep⟩:∃ p,powZ (t%65536/4096)=p:=⟨_,rfl⟩
 obtain⟨q,eq⟩:∃ q,powZ (t%65536/4096+1)=q:=⟨_,rfl⟩
 have ee:t%65536%4096=t%4096:=by omega
 rw[ep,eq] at s mm fb ⊢
 rw[ee] at mm fb ⊢
 clear ee
 have EP:Hid (powZ (t%65536/4096)=p):=ep
 have EQ:Hid (powZ (t%65536/4096+1)=q):=eq
 clear ep eq
 obtain⟨s1,s2,s3,s4⟩:=s
 obtain⟨m1,m2⟩:=mm
 obtain⟨fb1,fb2⟩:=fb
 have e:min 0 x=x:=by omega
 rw[e] at m;clear e
 by_cases k:16<t/65536
 ·rw[if_pos k]
  go_enter Tryz.func142,Tryz.ntmps142
  go_wp2_with (go_at_call 76;refine (refMul_call _ _ (by first|assumption|decide) (by decide) _).mono ?_;rintro e w' ⟨rfl,rfl⟩)
  generalize hW:w.alloc (Obj.cells _ _)=W1
  have hW':w.alloc (Obj.cells (tabP.map (Value.int .i64)).toArray 2)=W1:=hW
  have hg:Bw w W1:=by rw[←hW];exact bNw (bT w) _
  have c1:W1.cell? ⟨w.heap.size,(t%65536/4096).toNat,none⟩=some (I4 p):=by
   rw[←hW',World.cell?_alloc_new,←EP.out];exact QaI _ _ (by show _<17;omega)
  have c2:W1.cell? ⟨w.heap.size,(t%65536/4096+1).toNat,none⟩=some (I4 q):=by
   rw[←hW',World.cell?_alloc_new,←EQ.out];exact QaI _ _ (by show _<17;omega)
  clear hW hW'
  go_quiet (fail)
  go_wp2
  go_ret
  exact⟨rfl,bDr hg ⟨_,rfl⟩⟩
 ·rw[if_neg k]
  go_enter Tryz.func142,Tryz.ntmps142
  go_wp2_with (go_at_call 76;refine (refMul_call _ _ (by first|assumption|decide) (by decide) _).mono ?_;rintro e w' ⟨rfl,rfl⟩)
  generalize hW:w.alloc (Obj.cells _ _)=W1
  have hW':w.alloc (Obj.cells (tabP.map (Value.int .i64)).toArray 2)=W1:=hW
  have hg:Bw w W1:=by rw[←hW];exact bNw (bT w) _
  have c1:W1.cell? ⟨w.heap.size,(t%65536/4096).toNat,none⟩=some (I4 p):=by
   rw[←hW',World.cell?_alloc_new,←EP.out];exact QaI _ _ (by show _<17;omega)
  have c2:W1.cell? ⟨w.heap.size,(t%65536/4096+1).toNat,none⟩=some (I4 q):=by
   rw[←hW',World.cell?_alloc_new,←EQ.out];exact QaI _ _ (by show _<17;omega)
  clear hW hW'
  go_quiet (fail)
  go_wp2
  go_ret
  exact⟨rfl,bDr hg ⟨_,rfl⟩⟩
theorem Qh1 (x:Int)(wx:(Lit.int .i64 x).wf=true)(h:x=0)(w:World) :
  Calls Tryz.prog 142 #[I4 x] w fun e w'=>e=.returned (I4 (expZ x))∧Bw w w':=by
 have tb:=Qci x
 have m:=QfY x
 unfold expZ
 obtain⟨t,et⟩:∃ t,tZ x=t:=⟨_,rfl⟩
 rw[et] at tb m ⊢
 clear et
 obtain⟨t0,t1⟩:=tb
 have f0:0≤t%65536:=by omega
 have f1:t%65536<65536:=by omega
 have i0:0≤t%65536/4096:=by omega
 have i1:t%65536/4096<17:=by omega
 have i2:t%65536/4096+1<17:=by omega
 have s:=QbV (t%65536/4096) i0 (by omega)
 have mm:=Qbv (powZ (t%65536/4096)-powZ (t%65536/4096+1)) (t%65536%4096) s.1 s.2.1 (by omega) (by omega)
 have fb:=QaM (t%65536) (by omega) (by omega)
 unfold Qbd at fb ⊢
 obtain⟨p,ep⟩:∃ p,powZ (t%65536/4096)=p:=⟨_,rfl⟩
 obtain⟨q,eq⟩:∃ q,powZ (t%65536/4096+1)=q:=⟨_,rfl⟩
 have ee:t%65536%4096=t%4096:=by omega
 rw[ep,eq] at s mm fb ⊢
 rw[ee] at mm fb ⊢
 clear ee
 have EP:Hid (powZ (t%65536/4096)=p):=ep
 have EQ:Hid (powZ (t%65536/4096+1)=q):=eq
 clear ep eq
 obtain⟨s1,s2,s3,s4⟩:=s
 obtain⟨m1,m2⟩:=mm
 obtain⟨fb1,fb2⟩:=fb
 have e:min 0 x=0:=by omega
 rw[e] at m;clear e;subst h
 by_cases k:16<t/65536
 ·rw[if_pos k]
  go_enter Tryz.func142,Tryz.ntmps142
  go_wp2_with (go_at_call 76;refine (refMul_call _ _ (by first|assumption|decide) (by decide) _).mono ?_;rintro e w' ⟨rfl,rfl⟩)
  generalize hW:w.alloc (Obj.cells _ _)=W1
  have hW':w.alloc (Obj.cells (tabP.map (Value.int .i64)).toArray 2)=W1:=hW
  have hg:Bw w W1:=by rw[←hW];exact bNw (bT w) _
  have c1:W1.cell? ⟨w.heap.size,(t%65536/4096).toNat,none⟩=some (I4 p):=by
   rw[←hW',World.cell?_alloc_new,←EP.out];exact QaI _ _ (by show _<17;omega)
  have c2:W1.cell? ⟨w.heap.size,(t%65536/4096+1).toNat,none⟩=some (I4 q):=by
   rw[←hW',World.cell?_alloc_new,←EQ.out];exact QaI _ _ (by show _<17;omega)
  clear hW hW'
  go_quiet (fail)
  go_wp2
  go_ret
  exact⟨rfl,bDr hg ⟨_,rfl⟩⟩
 ·rw[if_neg k]
  go_enter Tryz.func142,Tryz.ntmps142
  go_wp2_with (go_at_call 76;refine (refMul_call _ _ (by first|assumption|decide) (by decide) _).mono ?_;rintro e w' ⟨rfl,rfl⟩)
  generalize hW:w.alloc (Obj.cells _ _)=W1
  have hW':w.alloc (Obj.cells (tabP.map (Value.int .i64)).toArray 2)=W1:=hW
  have hg:Bw w W1:=by rw[←hW];exact bNw (bT w) _
  have c1:W1.cell? ⟨w.heap.size,(t%65536/4096).toNat,none⟩=some (I4 p):=by
   rw[←hW',World.cell?_alloc_new,←EP.out];exact QaI _ _ (by show _<17;omega)
  have c2:W1.cell? ⟨w.heap.size,(t%65536/4096+1).toNat,none⟩=some (I4 q):=by
   rw[←hW',World.cell?_alloc_new,←EQ.out];exact QaI _ _ (by show _<17;omega)
  clear hW hW'
  go_quiet (fail)
  go_wp2
  go_ret
  exact⟨rfl,bDr hg ⟨_,rfl⟩⟩
theorem Qjl (x:Int)(wx:(Lit.int .i64 x).wf=true)(h:0<x)(w:World) :
  Calls Tryz.prog 142 #[I4 x] w fun e w'=>e=.returned (I4 (expZ x))∧Bw w w':=by
 have tb:=Qci x
 have m:=QfY x
 unfold expZ
 obtain⟨t,et⟩:∃ t,tZ x=t:=⟨_,rfl⟩
 rw[et] at tb m ⊢
 clear et
 obtain⟨t0,t1⟩:=tb
 have f0:0≤t%65536:=by omega
 have f1:t%65536<65536:=by omega
 have i0:0≤t%65536/4096:=by omega
 have i1:t%65536/4096<17:=by omega
 have i2:t%65536/4096+1<17:=by omega
 have s:=QbV (t%65536/4096) i0 (by omega)
 have mm:=Qbv (powZ (t%65536/4096)-powZ (t%65536/4096+1)) (t%65536%4096) s.1 s.2.1 (by omega) (by omega)
 have fb:=QaM (t%65536) (by omega) (by omega)
 unfold Qbd at fb ⊢
 obtain⟨p,ep⟩:∃ p,powZ (t%65536/4096)=p:=⟨_,rfl⟩
 obtain⟨q,eq⟩:∃ q,powZ (t%65536/4096+1)=q:=⟨_,rfl⟩
 have ee:t%65536%4096=t%4096:=by omega
 rw[ep,eq] at s mm fb ⊢
 rw[ee] at mm fb ⊢
 clear ee
 have EP:Hid (powZ (t%65536/4096)=p):=ep
 have EQ:Hid (powZ (t%65536/4096+1)=q):=eq
 clear ep eq
 obtain⟨s1,s2,s3,s4⟩:=s
 obtain⟨m1,m2⟩:=mm
 obtain⟨fb1,fb2⟩:=fb
 have e:min 0 x=0:=by omega
 rw[e] at m;clear e
 by_cases k:16<t/65536
 ·rw[if_pos k]
  go_enter Tryz.func142,Tryz.ntmps142
  go_wp2_with (go_at_call 76;refine (refMul_call _ _ (by first|assumption|decide) (by decide) _).mono ?_;rintro e w' ⟨rfl,rfl⟩)
  generalize hW:w.alloc (Obj.cells _ _)=W1
  have hW':w.alloc (Obj.cells (tabP.map (Value.int .i64)).toArray 2)=W1:=hW
  have hg:Bw w W1:=by rw[←hW];exact bNw (bT w) _
  have c1:W1.cell? ⟨w.heap.size,(t%65536/4096).toNat,none⟩=some (I4 p):=by
   rw[←hW',World.cell?_alloc_new,←EP.out];exact QaI _ _ (by show _<17;omega)
  have c2:W1.cell? ⟨w.heap.size,(t%65536/4096+1).toNat,none⟩=some (I4 q):=by
   rw[←hW',World.cell?_alloc_new,←EQ.out];exact QaI _ _ (by show _<17;omega)
  clear hW hW'
  go_quiet (fail)
  go_wp2
  go_ret
  exact⟨rfl,bDr hg ⟨_,rfl⟩⟩
 ·rw[if_neg k]
  go_enter Tryz.func142,Tryz.ntmps142
  go_wp2_with (go_at_call 76;refine (refMul_call _ _ (by first|assumption|decide) (by decide) _).mono ?_;rintro e w' ⟨rfl,rfl⟩)
  generalize hW:w.alloc (Obj.cells _ _)=W1
  have hW':w.alloc (Obj.cells (tabP.map (Value.int .i64)).toArray 2)=W1:=hW
  have hg:Bw w W1:=by rw[←hW];exact bNw (bT w) _
  have c1:W1.cell? ⟨w.heap.size,(t%65536/4096).toNat,none⟩=some (I4 p):=by
   rw[←hW',World.cell?_alloc_new,←EP.out];exact QaI _ _ (by show _<17;omega)
  have c2:W1.cell? ⟨w.heap.size,(t%65536/4096+1).toNat,none⟩=some (I4 q):=by
   rw[←hW',World.cell?_alloc_new,←EQ.out];exact QaI _ _ (by show _<17;omega)
  clear hW hW'
  go_quiet (fail)
  go_wp2
  go_ret
  exact⟨rfl,bDr hg ⟨_,rfl⟩⟩
theorem refExp_call (x:Int)(wx:(Lit.int .i64 x).wf=true)(w:World) :
  Calls Tryz.prog 142 #[I4 x] w fun e w'=>e=.returned (I4 (expZ x))∧Bw w w':=by
 rcases Int.lt_trichotomy x 0 with h|h|h
 ·exact Qjm x wx h w
 ·exact Qh1 x wx h w
 ·exact Qjl x wx h w
theorem Qlq (x:Int)(h0:-2147483648≤x)(h1:x≤2147483647):cZ x=x:=by
 unfold cZ
 rw[if_neg (by omega),if_neg (by omega)]
theorem Qi3 (c:Int)(h0:-2147483648≤c)(h1:c<0):upZ (cZ (-c))=upZ (-c):=by
 by_cases k:c = -2147483648
 ·subst k;decide +kernel
 ·rw[Qlq (-c) (by omega) (by omega)]
theorem upperSig_call (x:Int)(h0:0≤x)(h1:x≤2147483648)(w:World) :
  Calls Tryz.prog 159 #[I4 x] w fun e w'=>e=.returned (I4 (upZ x))∧Bw w w':=by
 have eb:=Qbz (-x)
 unfold upZ
 obtain⟨v,ev⟩:∃ v,expZ (-x)=v:=⟨_,rfl⟩
 rw[ev] at eb ⊢
 obtain⟨e0,e1⟩:=eb
 have wv:(Lit.int .i64 (65536+v)).wf=true:=QbT (by omega) (by omega)
 go_enter Tryz.func159,Tryz.ntmps159
 go_wp2_with (first|(go_at_call 134;refine (QiW _ _).mono ?_;rintro e w' ⟨rfl,hg⟩)|(go_at_call 135;refine (div_call _ _ (by first|assumption|decide) (by first|assumption|decide) _).mono ?_;rintro e w' ⟨rfl,rfl⟩))
 all_goals go_ret
 all_goals exact⟨rfl,by assumption⟩
theorem QlX (x:Int)(w:World) :
  Calls Tryz.prog 155 #[I4 x] w fun e w'=>e=.returned (I4 (sigZ x))∧Bw w w':=by
 have cb:=cZb x
 have b1:=Qcs (-cZ x)
 unfold sigZ
 obtain⟨c,ec⟩:∃ c,cZ x=c:=⟨_,rfl⟩
 rw[ec] at cb b1 ⊢
 obtain⟨c0,c1⟩:=cb
 obtain⟨b0,b1⟩:=b1
 by_cases k:c<0
 ·rw[if_pos k]
  go_enter Tryz.func155,Tryz.ntmps155
  go_wp2_with (first|(go_at_call 114;refine (cCa _ _).mono ?_;rintro e w' ⟨rfl,rfl⟩)|(go_at_call 159;refine (upperSig_call _ (by omega) (by omega) _).mono ?_;rintro e w' ⟨rfl,hg⟩))
  all_goals go_ret
  all_goals exact⟨rfl,by assumption⟩
 ·rw[if_neg k]
  go_enter Tryz.func155,Tryz.ntmps155
  go_wp2_with (first|(go_at_call 114;refine (cCa _ _).mono ?_;rintro e w' ⟨rfl,rfl⟩)|(go_at_call 159;refine (upperSig_call _ (by omega) (by omega) _).mono ?_;rintro e w' ⟨rfl,hg⟩))
  all_goals go_ret
  all_goals exact⟨rfl,by assumption⟩
theorem Qks (x:Int)(hx:(Lit.int .i64 x).wf=true)(w:World) :
  Calls Tryz.prog 152 #[I4 x] w fun e w'=>e=.returned (I4 (siluZ x))∧Bw w w':=by
 have b:=Qeq x
 have wv:(Lit.int .i64 (sigZ x)).wf=true:=QbT (by omega) (by omega)
 unfold siluZ
 go_enter Tryz.func152,Tryz.ntmps152
 go_wp2_with (first|(go_at_call 155;refine (QlX _ _).mono ?_;rintro e w' ⟨rfl,hg⟩)|(go_at_call 104;refine (mul_call _ _ (by first|assumption|decide) (by first|assumption|decide) _).mono ?_;rintro e w' ⟨rfl,rfl⟩))
 all_goals go_ret
 all_goals exact⟨rfl,by assumption⟩
theorem refSig_up (x:Int)(h0:0≤cZ x)(w:World) :
  Calls Tryz.prog 144 #[I4 x] w fun e w'=>e=.returned (I4 (upZ (cZ x)))∧Bw w w':=by
 have cb:=cZb x
 have eb:=Qbz (-cZ x)
 unfold upZ
 obtain⟨c,ec⟩:∃ c,cZ x=c:=⟨_,rfl⟩
 rw[ec] at cb eb h0 ⊢
 obtain⟨c0,c1⟩:=cb
 obtain⟨v,ev⟩:∃ v,expZ (-c)=v:=⟨_,rfl⟩
 rw[ev] at eb ⊢
 obtain⟨e0,e1⟩:=eb
 have wv:(Lit.int .i64 (65536+v)).wf=true:=QbT (by omega) (by omega)
 have wx:(Lit.int .i64 (-c)).wf=true:=QbT (by omega) (by omega)
 go_enter Tryz.func144,Tryz.ntmps144
 go_wp2_with (first|(go_at_call 73;refine (rCc _ _).mono ?_;rintro e w' ⟨rfl,rfl⟩)|(go_at_call 142;refine (refExp_call _ (by first|assumption|decide) _).mono ?_;rintro e w' ⟨rfl,hg⟩)|(go_at_call 143;refine (refDiv_call _ _ (by first|assumption|decide) (by first|assumption|decide) _).mono ?_;rintro e w' ⟨rfl,rfl⟩))
 all_goals go_ret
 all_goals exact⟨rfl,by assumption⟩
theorem QhV (x:Int)(w:World) :
  Calls Tryz.prog 144 #[I4 x] w fun e w'=>e=.returned (I4 (sigZ x))∧Bw w w':=by
 have cb:=cZb x
 by_cases k:cZ x<0
 ·have e:sigZ x=65536-upZ (cZ (-cZ x)):=by
   unfold sigZ;rw[if_pos k,Qi3 _ cb.1 k]
  rw[e];clear e
  have ub:=Qcs (cZ (-cZ x))
  have nn:0≤cZ (-cZ x):=by
   have:0≤-cZ x:=by omega
   generalize -cZ x=y at *
   unfold cZ
   repeat' split
   all_goals omega
  obtain⟨c,ec⟩:∃ c,cZ x=c:=⟨_,rfl⟩
  rw[ec] at cb k ub nn ⊢
  obtain⟨c0,c1⟩:=cb
  obtain⟨u0,u1⟩:=ub
  go_enter Tryz.func144,Tryz.ntmps144
  go_wp2_with (first|(go_at_call 73;refine (rCc _ _).mono ?_;rintro e w' ⟨rfl,rfl⟩)|(go_at_call 144;refine (refSig_up _ nn _).mono ?_;rintro e w' ⟨rfl,hg⟩))
  all_goals go_ret
  all_goals exact⟨rfl,by assumption⟩
 ·have e:sigZ x=upZ (cZ x):=by
   unfold sigZ;rw[if_neg k]
  rw[e]
  exact refSig_up x (by omega) w
theorem QdO (x:Int)(hx:(Lit.int .i64 x).wf=true)(w:World) :
  Calls Tryz.prog 129 #[I4 x] w fun e w'=>e=.returned (I4 (siluZ x))∧Bw w w':=by
 have b:=Qeq x
 have wv:(Lit.int .i64 (sigZ x)).wf=true:=QbT (by omega) (by omega)
 unfold siluZ
 go_enter Tryz.func129,Tryz.ntmps129
 go_wp2_with (first|(go_at_call 144;refine (QhV _ _).mono ?_;rintro e w' ⟨rfl,hg⟩)|(go_at_call 76;refine (refMul_call _ _ (by first|assumption|decide) (by first|assumption|decide) _).mono ?_;rintro e w' ⟨rfl,rfl⟩))
 all_goals go_ret
 all_goals exact⟨rfl,by assumption⟩
def moD (i:Nat):Option Nat:=match i with|0=>some 34|1=>some 35|2=>some 36|3=>some 37|4=>some 38|5=>some 39|6=>some 40|7=>some 41|8=>some 42|9=>some 12|_=>none
theorem Qne:∀ i,i<10→∀ j,j<10→moD i=moD j→moD i≠none→i=j:=by decide
theorem Qn3:∀ i,i<10→∀ d,moD i=some d→d<94:=by
 intro i hi d h
 have:∀ i,i<10→(moD i).all (fun d=>decide (d<94))=true:=by decide
 have:=this i hi
 rw[h] at this
 simpa using this
def moF (x y:Addr)(n c1 c2 un uc dn dc m xc:Nat)(ua da xa:Option Addr)(hh:Int)(O:List Int)(i:Nat)(q:Value)(w:World):Prop:=match i with
 | 0=>q=.slice (some x) n c1
 | 1=>q=.pointer (some x)
 | 2=>q=.slice ua un uc
 | 3=>q=.slice (some y) n c2
 | 4=>q=.pointer (some y)
 | 5=>q=.slice da dn dc
 | 6=>q=I4 hh
 | 7=>q=.slice xa m xc
 | 8=>∃ b,q=.slice (some b) m m∧Reads .i64 w (some b) m O
 | 9=>∃ b,q=.slice (some b) m m∧Reads .i64 w (some b) m O
 | _=>True
theorem Qk6 {x y:Addr}{n c1 c2 un uc dn dc m xc:Nat}{ua da xa:Option Addr}{hh:Int}{O:List Int}{i:Nat}{q:Value}{w w':World}(h:moF x y n c1 c2 un uc dn dc m xc ua da xa hh O i q w)(hb:Bw w w'):moF x y n c1 c2 un uc dn dc m xc ua da xa hh O i q w':=by
 unfold moF at h ⊢
 split
 ·exact h
 ·exact h
 ·exact h
 ·exact h
 ·exact h
 ·exact h
 ·exact h
 ·exact h
 ·obtain⟨b,h1,h2⟩:=h;exact⟨b,h1,h2.below hb⟩
 ·obtain⟨b,h1,h2⟩:=h;exact⟨b,h1,h2.below hb⟩
 ·trivial
theorem Qk5 {id:Nat}{ops:Array Oper}{Q:Exit→Act→World→Prop}{a0:Act}{w0:World}(x y:Addr)(n c1 c2 un uc dn dc m xc:Nat)(ua da xa:Option Addr)(hh:Int)(O:List Int)(S:World→Prop)(hlow:lowB ops=true)(hsz:ops.size=10)
  (oo:OpS ops 0 34 (.move (.tmp 1)) []∧OpS ops 1 35 (.indexAddr 63 (.tmp 34) (.const (I4 0))) [0]∧OpS ops 2 36 (.load 24 (.tmp 35)) [1]∧OpS ops 3 37 (.move (.tmp 2)) []∧OpS ops 4 38 (.indexAddr 63 (.tmp 37) (.const (I4 0))) [3]∧OpS ops 5 39 (.load 24 (.tmp 38)) [4]∧OpS ops 6 40 (.move (.tmp 3)) []∧OpS ops 7 41 (.move (.tmp 5)) []∧OpS ops 8 42 (.call { callee:=.value (.func 138),args:=#[.tmp 36,.tmp 39,.tmp 40,.tmp 41],argTypes:=#[24,24,3,34] }) [2,5,6,7]∧OpS ops 9 12 (.assign (.tmp 42)) [8])
  (hS:S w0.drew)
  (x1:∀ w,(Instr.indexAt 63 (.slice (some x) n c1) (I4 0)).run Tryz.prog w=.ok (.pointer (some x)) w)
  (x2:∀ w,S w→(Instr.loadAt 24 (.pointer (some x))).run Tryz.prog w=.ok (.slice ua un uc) w)
  (x4:∀ w,(Instr.indexAt 63 (.slice (some y) n c2) (I4 0)).run Tryz.prog w=.ok (.pointer (some y)) w)
  (x5:∀ w,S w→(Instr.loadAt 24 (.pointer (some y))).run Tryz.prog w=.ok (.slice da dn dc) w)
  (x8:∀ w,S w→Calls Tryz.prog 138 #[.slice ua un uc,.slice da dn dc,I4 hh,.slice xa m xc] w fun e w'=>∃ b,e=.returned (.slice (some b) m m)∧Reads .i64 w' (some b) m O∧Bw w w'∧S w')
  (u1:a0.tmps.getD 1 undef=.slice (some x) n c1)
  (u2:a0.tmps.getD 2 undef=.slice (some y) n c2)
  (u3:a0.tmps.getD 3 undef=I4 hh)
  (u5:a0.tmps.getD 5 undef=.slice xa m xc)
  (hs:94≤a0.tmps.size)
  (fin:∀ a w,a.tmps.size=a0.tmps.size→a.defers=a0.defers→(∀ s,(∀ i,i<10→moD i≠some s)→a.tmps.getD s undef=a0.tmps.getD s undef)→S w→(∀ i d,i<10→moD i=some d→moF x y n c1 c2 un uc dn dc m xc ua da xa hh O i (a.tmps.getD d undef) w)→Q .normal a w):(Code.region id ops true).wp Tryz.prog Q a0 w0:=by
 obtain⟨o0,o1,o2,o3,o4,o5,o6,o7,o8,o9⟩:=oo
 have r32:∀ args w,(callFunc 138 args).run Tryz.prog w=.ok (.enter 138 args) w:=eNo Tryz.func138 (by kernel_rfl) rfl
 refine wRi (by kernel_rfl) hlow (Inv 10 moD a0 (fun _ _ w=>S w) (fun _=>moF x y n c1 c2 un uc dn dc m xc ua da xa hh O)) (Inv.start hS) ?_ ?_
 ·intro l i o a w ho hl hcl hdep hI
  have hi:i<10:=by rw[←hsz];exact (Array.getElem?_eq_some_iff.1 ho).1
  have ev:∀ (s:Nat),a.eval (.tmp s)=a.tmps.getD s undef:=fun _=>rfl
  have evf:∀ f,a.eval (.func f)=.func (.func f) #[] #[]:=fun _=>rfl
  have evc:∀ c:Value,a.eval (.const c)=c:=fun _=>rfl
  have inj:∀ d,moD i=some d→∀ j d',j<10→moD j=some d'→j≠i→d'≠d:=fun d hd j d' hj hd' hne e=>hne (Qne j hj i hi (by rw[hd',hd,e]) (by rw[hd'];simp))
  have kp:∀ s,(∀ i,i<10→moD i≠some s)→a.tmps.getD s undef=a0.tmps.getD s undef:=hI.kept
  have hw:S w:=hI.world
  have go:∀ {d:Nat}{v:Value}{w':World},moD i=some d→Bw w w'→S w'→moF x y n c1 c2 un uc dn dc m xc ua da xa hh O i v w'→Inv 10 moD a0 (fun _ _ w=>S w) (fun _=>moF x y n c1 c2 un uc dn dc m xc ua da xa hh O) (fun j=>l j || j==i) (a.put (some d) v) w':=by
   intro d v w' hD hb hS' hF
   exact hI.put hi hD (Nat.lt_of_lt_of_le (Qn3 i hi d hD) hs) (inj d hD) hS' hF (fun j u _ _ _ hf=>Qk6 hf hb)
  rcases l10 (show i<10 by omega) with rfl|rfl|rfl|rfl|rfl|rfl|rfl|rfl|rfl|rfl
  ·obtain⟨e2,e3,e4,dp⟩:=o0.at_ ho hdep
   have U1:=(kp 1 (by decide)).trans u1
   exact wVa (v:=.slice (some x) n c1) (w':=w) ho e4 (by simp[execOp,e3,ev,evc,U1]) (by rw[e2];exact go rfl bR hw rfl)
  ·obtain⟨e2,e3,e4,dp⟩:=o1.at_ ho hdep
   have V0:tm a 34=_:=hI.vl dp 0 34 rfl rfl
   exact wVa (v:=.pointer (some x)) (w':=w) ho e4 (by simp[execOp,e3,ev,evc,V0,x1 w]) (by rw[e2];exact go rfl bR hw rfl)
  ·obtain⟨e2,e3,e4,dp⟩:=o2.at_ ho hdep
   have V1:tm a 35=_:=hI.vl dp 1 35 rfl rfl
   exact wVa (v:=.slice ua un uc) (w':=w) ho e4 (by simp[execOp,e3,ev,evc,V1,x2 w hw]) (by rw[e2];exact go rfl bR hw rfl)
  ·obtain⟨e2,e3,e4,dp⟩:=o3.at_ ho hdep
   have U2:=(kp 2 (by decide)).trans u2
   exact wVa (v:=.slice (some y) n c2) (w':=w) ho e4 (by simp[execOp,e3,ev,evc,U2]) (by rw[e2];exact go rfl bR hw rfl)
  ·obtain⟨e2,e3,e4,dp⟩:=o4.at_ ho hdep
   have V3:tm a 37=_:=hI.vl dp 3 37 rfl rfl
   exact wVa (v:=.pointer (some y)) (w':=w) ho e4 (by simp[execOp,e3,ev,evc,V3,x4 w]) (by rw[e2];exact go rfl bR hw rfl)
  ·obtain⟨e2,e3,e4,dp⟩:=o5.at_ ho hdep
   have V4:tm a 38=_:=hI.vl dp 4 38 rfl rfl
   exact wVa (v:=.slice da dn dc) (w':=w) ho e4 (by simp[execOp,e3,ev,evc,V4,x5 w hw]) (by rw[e2];exact go rfl bR hw rfl)
  ·obtain⟨e2,e3,e4,dp⟩:=o6.at_ ho hdep
   have U3:=(kp 3 (by decide)).trans u3
   exact wVa (v:=I4 hh) (w':=w) ho e4 (by simp[execOp,e3,ev,evc,U3]) (by rw[e2];exact go rfl bR hw rfl)
  ·obtain⟨e2,e3,e4,dp⟩:=o7.at_ ho hdep
   have U5:=(kp 5 (by decide)).trans u5
   exact wVa (v:=.slice xa m xc) (w':=w) ho e4 (by simp[execOp,e3,ev,evc,U5]) (by rw[e2];exact go rfl bR hw rfl)
  ·obtain⟨e2,e3,e4,dp⟩:=o8.at_ ho hdep
   have V2:tm a 36=_:=hI.vl dp 2 36 rfl rfl
   have V5:tm a 39=_:=hI.vl dp 5 39 rfl rfl
   have V6:tm a 40=_:=hI.vl dp 6 40 rfl rfl
   have V7:tm a 41=_:=hI.vl dp 7 41 rfl rfl
   refine wCa (f:=138) (args:=#[.slice ua un uc,.slice da dn dc,I4 hh,.slice xa m xc]) ho e4 (by simp[execOp,e3,resolve,invoke,Deferred.ofValue,r32,ev,evf,evc,V2,V5,V6,V7]) ((x8 w hw).mono ?_)
   rintro e W' ⟨b,rfl,hr6,hb6,hs6⟩
   refine⟨_,rfl,?_⟩
   rw[e2]
   exact go rfl hb6 hs6 ⟨b,rfl,hr6⟩
  ·obtain⟨e2,e3,e4,dp⟩:=o9.at_ ho hdep
   obtain⟨b8,V8,f8⟩:=hI.vl dp 8 42 rfl rfl
   exact wVa (v:=.slice (some b8) m m) (w':=w) ho e4 (by simp[execOp,e3,ev,evc,V8]) (by rw[e2];exact go rfl bR hw ⟨_,rfl,f8⟩)
 ·intro l a w hall hI
  have all:∀ j,j<10→l j=true:=fun j hj=>hall j (by rw[hsz];exact hj)
  exact fin a w hI.size hI.defers hI.kept hI.world (fun i d hi hD=>hI.val i d hi hD (all i hi))
def mrD (i:Nat):Option Nat:=match i with|0=>some 62|1=>some 63|2=>some 64|3=>some 65|4=>some 66|5=>some 67|6=>some 68|7=>some 69|8=>some 70|9=>some 71|10=>some 72|11=>some 73|12=>some 74|13=>some 75|_=>none
theorem Qnd:∀ i,i<15→∀ j,j<15→mrD i=mrD j→mrD i≠none→i=j:=by decide
theorem Qn2:∀ i,i<15→∀ d,mrD i=some d→d<94:=by
 intro i hi d h
 have:∀ i,i<15→(mrD i).all (fun d=>decide (d<94))=true:=by decide
 have:=this i hi
 rw[h] at this
 simpa using this
def mrF (x y:Addr)(n c1 c2 un uc dn dc m xc:Nat)(ua da xa:Option Addr)(hh:Int)(B K g p:Nat)(O:List Int)(i:Nat)(q:Value)(w:World):Prop:=match i with
 | 0=>q=.slice (some ⟨B,0,none⟩) K K
 | 1=>q=I4 g
 | 2=>q=.slice (some x) n c1
 | 3=>q=I4 p
 | 4=>q=.pointer (some (x.add p))
 | 5=>q=.slice ua un uc
 | 6=>q=.slice (some y) n c2
 | 7=>q=I4 p
 | 8=>q=.pointer (some (y.add p))
 | 9=>q=.slice da dn dc
 | 10=>q=I4 hh
 | 11=>q=.slice xa m xc
 | 12=>∃ b,q=.slice (some b) m m∧Reads .i64 w (some b) m O∧b.block≠B
 | 13=>q=.pointer (some ⟨B,g,none⟩)
 | _=>True
theorem Qk3 {x y:Addr}{n c1 c2 un uc dn dc m xc:Nat}{ua da xa:Option Addr}{hh:Int}{B K g p:Nat}{O:List Int}{i:Nat}{q:Value}{w w':World}(h:mrF x y n c1 c2 un uc dn dc m xc ua da xa hh B K g p O i q w)(hb:Bw w w'):mrF x y n c1 c2 un uc dn dc m xc ua da xa hh B K g p O i q w':=by
 unfold mrF at h ⊢
 split
 ·exact h
 ·exact h
 ·exact h
 ·exact h
 ·exact h
 ·exact h
 ·exact h
 ·exact h
 ·exact h
 ·exact h
 ·exact h
 ·exact h
 ·obtain⟨b,h1,h2,h3⟩:=h;exact⟨b,h1,h2.below hb,h3⟩
 ·exact h
 ·trivial
theorem Qk2 {id:Nat}{ops:Array Oper}{Q:Exit→Act→World→Prop}{a0:Act}{w0:World}(x y:Addr)(n c1 c2 un uc dn dc m xc:Nat)(ua da xa:Option Addr)(hh:Int)(B K g p:Nat)(O:List Int)(S:World→Prop)(hlow:lowB ops=true)(hsz:ops.size=15)
  (oo:OpS ops 0 62 (.move (.tmp 15)) []∧OpS ops 1 63 (.move (.tmp 16)) []∧OpS ops 2 64 (.move (.tmp 1)) []∧OpS ops 3 65 (.move (.tmp 17)) []∧OpS ops 4 66 (.indexAddr 63 (.tmp 64) (.tmp 65)) [2,3]∧OpS ops 5 67 (.load 24 (.tmp 66)) [4]∧OpS ops 6 68 (.move (.tmp 2)) []∧OpS ops 7 69 (.move (.tmp 17)) []∧OpS ops 8 70 (.indexAddr 63 (.tmp 68) (.tmp 69)) [6,7]∧OpS ops 9 71 (.load 24 (.tmp 70)) [8]∧OpS ops 10 72 (.move (.tmp 3)) []∧OpS ops 11 73 (.move (.tmp 5)) []∧OpS ops 12 74 (.call { callee:=.value (.func 138),args:=#[.tmp 67,.tmp 71,.tmp 72,.tmp 73],argTypes:=#[24,24,3,34] }) [5,9,10,11]∧OpS ops 13 75 (.indexAddr 31 (.tmp 62) (.tmp 63)) [0,1]∧OpIn ops 14 none (.store 34 (.tmp 75) (.tmp 74)) none [12,13])
  (hS:S w0.drew)
  (x4:∀ w,(Instr.indexAt 63 (.slice (some x) n c1) (I4 p)).run Tryz.prog w=.ok (.pointer (some (x.add p))) w)
  (x5:∀ w,S w→(Instr.loadAt 24 (.pointer (some (x.add p)))).run Tryz.prog w=.ok (.slice ua un uc) w)
  (x8:∀ w,(Instr.indexAt 63 (.slice (some y) n c2) (I4 p)).run Tryz.prog w=.ok (.pointer (some (y.add p))) w)
  (x9:∀ w,S w→(Instr.loadAt 24 (.pointer (some (y.add p)))).run Tryz.prog w=.ok (.slice da dn dc) w)
  (x12:∀ w,S w→Calls Tryz.prog 138 #[.slice ua un uc,.slice da dn dc,I4 hh,.slice xa m xc] w fun e w'=>∃ b,e=.returned (.slice (some b) m m)∧Reads .i64 w' (some b) m O∧b.block≠B∧Bw w w'∧S w')
  (x13:∀ w,(Instr.indexAt 31 (.slice (some ⟨B,0,none⟩) K K) (I4 g)).run Tryz.prog w=.ok (.pointer (some ⟨B,g,none⟩)) w)
  (u1:a0.tmps.getD 1 undef=.slice (some x) n c1)
  (u2:a0.tmps.getD 2 undef=.slice (some y) n c2)
  (u3:a0.tmps.getD 3 undef=I4 hh)
  (u5:a0.tmps.getD 5 undef=.slice xa m xc)
  (u15:a0.tmps.getD 15 undef=.slice (some ⟨B,0,none⟩) K K)
  (u16:a0.tmps.getD 16 undef=I4 g)
  (u17:a0.tmps.getD 17 undef=I4 p)
  (hs:94≤a0.tmps.size)
  (fin:∀ a w,a.tmps.size=a0.tmps.size→a.defers=a0.defers→(∀ s,(∀ i,i<15→mrD i≠some s)→a.tmps.getD s undef=a0.tmps.getD s undef)→S w→(∀ i d,i<14→mrD i=some d→mrF x y n c1 c2 un uc dn dc m xc ua da xa hh B K g p O i (a.tmps.getD d undef) w)→∃ w',(Instr.storeAt 34 (a.tmps.getD 75 undef) (a.tmps.getD 74 undef)).run Tryz.prog w=.ok () w'∧Q .normal a w'):(Code.region id ops true).wp Tryz.prog Q a0 w0:=by
 obtain⟨o0,o1,o2,o3,o4,o5,o6,o7,o8,o9,o10,o11,o12,o13,o14⟩:=oo
 have r32:∀ args w,(callFunc 138 args).run Tryz.prog w=.ok (.enter 138 args) w:=eNo Tryz.func138 (by kernel_rfl) rfl
 refine wRi (by kernel_rfl) hlow (fun l a w=>(l 14=true∧Q .normal a w)∨(l 14=false∧Inv 15 mrD a0 (fun _ _ w=>S w) (fun _=>mrF x y n c1 c2 un uc dn dc m xc ua da xa hh B K g p O) l a w)) (.inr ⟨rfl,Inv.start hS⟩) ?_ ?_
 ·intro l i o a w ho hl hcl hdep hI0
  have hi:i<15:=by rw[←hsz];exact (Array.getElem?_eq_some_iff.1 ho).1
  rcases hI0 with⟨hlast,-⟩|⟨hlast,hI⟩
  ·exfalso
   have d12:l 12=true:=hcl.dep' o14 hlast 12 (by decide)
   have d13:l 13=true:=hcl.dep' o14 hlast 13 (by decide)
   have d5:l 5=true:=hcl.dep' o12 d12 5 (by decide)
   have d9:l 9=true:=hcl.dep' o12 d12 9 (by decide)
   have d10:l 10=true:=hcl.dep' o12 d12 10 (by decide)
   have d11:l 11=true:=hcl.dep' o12 d12 11 (by decide)
   have d0:l 0=true:=hcl.dep' o13 d13 0 (by decide)
   have d1:l 1=true:=hcl.dep' o13 d13 1 (by decide)
   have d4:l 4=true:=hcl.dep' o5 d5 4 (by decide)
   have d8:l 8=true:=hcl.dep' o9 d9 8 (by decide)
   have d2:l 2=true:=hcl.dep' o4 d4 2 (by decide)
   have d3:l 3=true:=hcl.dep' o4 d4 3 (by decide)
   have d6:l 6=true:=hcl.dep' o8 d8 6 (by decide)
   have d7:l 7=true:=hcl.dep' o8 d8 7 (by decide)
   rcases l15 (show i<15 by omega) with rfl|rfl|rfl|rfl|rfl|rfl|rfl|rfl|rfl|rfl|rfl|rfl|rfl|rfl|rfl
   ·rw[d0] at hl;cases hl
   ·rw[d1] at hl;cases hl
   ·rw[d2] at hl;cases hl
   ·rw[d3] at hl;cases hl
   ·rw[d4] at hl;cases hl
   ·rw[d5] at hl;cases hl
   ·rw[d6] at hl;cases hl
   ·rw[d7] at hl;cases hl
   ·rw[d8] at hl;cases hl
   ·rw[d9] at hl;cases hl
   ·rw[d10] at hl;cases hl
   ·rw[d11] at hl;cases hl
   ·rw[d12] at hl;cases hl
   ·rw[d13] at hl;cases hl
   ·rw[hlast] at hl;cases hl
  have ev:∀ (s:Nat),a.eval (.tmp s)=a.tmps.getD s undef:=fun _=>rfl
  have evf:∀ f,a.eval (.func f)=.func (.func f) #[] #[]:=fun _=>rfl
  have evc:∀ c:Value,a.eval (.const c)=c:=fun _=>rfl
  have inj:∀ d,mrD i=some d→∀ j d',j<15→mrD j=some d'→j≠i→d'≠d:=fun d hd j d' hj hd' hne e=>hne (Qnd j hj i hi (by rw[hd',hd,e]) (by rw[hd'];simp))
  have kp:∀ s,(∀ i,i<15→mrD i≠some s)→a.tmps.getD s undef=a0.tmps.getD s undef:=hI.kept
  have hw:S w:=hI.world
  have go:∀ {d:Nat}{v:Value}{w':World},mrD i=some d→i≠14→Bw w w'→S w'→mrF x y n c1 c2 un uc dn dc m xc ua da xa hh B K g p O i v w'→((l 14 || 14==i)=true∧Q .normal (a.put (some d) v) w')∨((l 14 || 14==i)=false∧Inv 15 mrD a0 (fun _ _ w=>S w) (fun _=>mrF x y n c1 c2 un uc dn dc m xc ua da xa hh B K g p O) (fun j=>l j || j==i) (a.put (some d) v) w'):=by
   intro d v w' hD hne hb hS' hF
   refine .inr ⟨?_,hI.put hi hD (Nat.lt_of_lt_of_le (Qn2 i hi d hD) hs) (inj d hD) hS' hF (fun j u _ _ _ hf=>Qk3 hf hb)⟩
   rw[hlast,Bool.false_or]
   exact beq_eq_false_iff_ne.2 (Ne.symm hne)
  rcases l15 (show i<15 by omega) with rfl|rfl|rfl|rfl|rfl|rfl|rfl|rfl|rfl|rfl|rfl|rfl|rfl|rfl|rfl
  ·obtain⟨e2,e3,e4,dp⟩:=o0.at_ ho hdep
   have U15:=(kp 15 (by decide)).trans u15
   exact wVa (v:=.slice (some ⟨B,0,none⟩) K K) (w':=w) ho e4 (by simp[execOp,e3,ev,evc,U15]) (by rw[e2];exact go rfl (by decide) bR hw rfl)
  ·obtain⟨e2,e3,e4,dp⟩:=o1.at_ ho hdep
   have U16:=(kp 16 (by decide)).trans u16
   exact wVa (v:=I4 g) (w':=w) ho e4 (by simp[execOp,e3,ev,evc,U16]) (by rw[e2];exact go rfl (by decide) bR hw rfl)
  ·obtain⟨e2,e3,e4,dp⟩:=o2.at_ ho hdep
   have U1:=(kp 1 (by decide)).trans u1
   exact wVa (v:=.slice (some x) n c1) (w':=w) ho e4 (by simp[execOp,e3,ev,evc,U1]) (by rw[e2];exact go rfl (by decide) bR hw rfl)
  ·obtain⟨e2,e3,e4,dp⟩:=o3.at_ ho hdep
   have U17:=(kp 17 (by decide)).trans u17
   exact wVa (v:=I4 p) (w':=w) ho e4 (by simp[execOp,e3,ev,evc,U17]) (by rw[e2];exact go rfl (by decide) bR hw rfl)
  ·obtain⟨e2,e3,e4,dp⟩:=o4.at_ ho hdep
   have V2:tm a 64=_:=hI.vl dp 2 64 rfl rfl
   have V3:tm a 65=_:=hI.vl dp 3 65 rfl rfl
   exact wVa (v:=.pointer (some (x.add p))) (w':=w) ho e4 (by simp[execOp,e3,ev,evc,V2,V3,x4 w]) (by rw[e2];exact go rfl (by decide) bR hw rfl)
  ·obtain⟨e2,e3,e4,dp⟩:=o5.at_ ho hdep
   have V4:tm a 66=_:=hI.vl dp 4 66 rfl rfl
   exact wVa (v:=.slice ua un uc) (w':=w) ho e4 (by simp[execOp,e3,ev,evc,V4,x5 w hw]) (by rw[e2];exact go rfl (by decide) bR hw rfl)
  ·obtain⟨e2,e3,e4,dp⟩:=o6.at_ ho hdep
   have U2:=(kp 2 (by decide)).trans u2
   exact wVa (v:=.slice (some y) n c2) (w':=w) ho e4 (by simp[execOp,e3,ev,evc,U2]) (by rw[e2];exact go rfl (by decide) bR hw rfl)
  ·obtain⟨e2,e3,e4,dp⟩:=o7.at_ ho hdep
   have U17:=(kp 17 (by decide)).trans u17
   exact wVa (v:=I4 p) (w':=w) ho e4 (by simp[execOp,e3,ev,evc,U17]) (by rw[e2];exact go rfl (by decide) bR hw rfl)
  ·obtain⟨e2,e3,e4,dp⟩:=o8.at_ ho hdep
   have V6:tm a 68=_:=hI.vl dp 6 68 rfl rfl
   have V7:tm a 69=_:=hI.vl dp 7 69 rfl rfl
   exact wVa (v:=.pointer (some (y.add p))) (w':=w) ho e4 (by simp[execOp,e3,ev,evc,V6,V7,x8 w]) (by rw[e2];exact go rfl (by decide) bR hw rfl)
  ·obtain⟨e2,e3,e4,dp⟩:=o9.at_ ho hdep
   have V8:tm a 70=_:=hI.vl dp 8 70 rfl rfl
   exact wVa (v:=.slice da dn dc) (w':=w) ho e4 (by simp[execOp,e3,ev,evc,V8,x9 w hw]) (by rw[e2];exact go rfl (by decide) bR hw rfl)
  ·obtain⟨e2,e3,e4,dp⟩:=o10.at_ ho hdep
   have U3:=(kp 3 (by decide)).trans u3
   exact wVa (v:=I4 hh) (w':=w) ho e4 (by simp[execOp,e3,ev,evc,U3]) (by rw[e2];exact go rfl (by decide) bR hw rfl)
  ·obtain⟨e2,e3,e4,dp⟩:=o11.at_ ho hdep
   have U5:=(kp 5 (by decide)).trans u5
   exact wVa (v:=.slice xa m xc) (w':=w) ho e4 (by simp[execOp,e3,ev,evc,U5]) (by rw[e2];exact go rfl (by decide) bR hw rfl)
  ·obtain⟨e2,e3,e4,dp⟩:=o12.at_ ho hdep
   have V5:tm a 67=_:=hI.vl dp 5 67 rfl rfl
   have V9:tm a 71=_:=hI.vl dp 9 71 rfl rfl
   have V10:tm a 72=_:=hI.vl dp 10 72 rfl rfl
   have V11:tm a 73=_:=hI.vl dp 11 73 rfl rfl
   refine wCa (f:=138) (args:=#[.slice ua un uc,.slice da dn dc,I4 hh,.slice xa m xc]) ho e4 (by simp[execOp,e3,resolve,invoke,Deferred.ofValue,r32,ev,evf,evc,V5,V9,V10,V11]) ((x12 w hw).mono ?_)
   rintro e W' ⟨b,rfl,hr6,hz6,hb6,hs6⟩
   refine⟨_,rfl,?_⟩
   rw[e2]
   exact go rfl (by decide) hb6 hs6 ⟨b,rfl,hr6,hz6⟩
  ·obtain⟨e2,e3,e4,dp⟩:=o13.at_ ho hdep
   have V0:tm a 62=_:=hI.vl dp 0 62 rfl rfl
   have V1:tm a 63=_:=hI.vl dp 1 63 rfl rfl
   exact wVa (v:=.pointer (some ⟨B,g,none⟩)) (w':=w) ho e4 (by simp[execOp,e3,ev,evc,V0,V1,x13 w]) (by rw[e2];exact go rfl (by decide) bR hw rfl)
  ·have hdp:=hdep
   obtain⟨e2,e3,e4,dp⟩:=o14.at_ ho hdep
   have d12:l 12=true:=dp 12 (by decide)
   have d13:l 13=true:=dp 13 (by decide)
   have d5:l 5=true:=hcl.dep' o12 d12 5 (by decide)
   have d9:l 9=true:=hcl.dep' o12 d12 9 (by decide)
   have d10:l 10=true:=hcl.dep' o12 d12 10 (by decide)
   have d11:l 11=true:=hcl.dep' o12 d12 11 (by decide)
   have d0:l 0=true:=hcl.dep' o13 d13 0 (by decide)
   have d1:l 1=true:=hcl.dep' o13 d13 1 (by decide)
   have d4:l 4=true:=hcl.dep' o5 d5 4 (by decide)
   have d8:l 8=true:=hcl.dep' o9 d9 8 (by decide)
   have d2:l 2=true:=hcl.dep' o4 d4 2 (by decide)
   have d3:l 3=true:=hcl.dep' o4 d4 3 (by decide)
   have d6:l 6=true:=hcl.dep' o8 d8 6 (by decide)
   have d7:l 7=true:=hcl.dep' o8 d8 7 (by decide)
   have all:∀ j,j<14→l j=true:=by
    intro j hj
    rcases l14 (show j<14 by omega) with rfl|rfl|rfl|rfl|rfl|rfl|rfl|rfl|rfl|rfl|rfl|rfl|rfl|rfl<;>assumption
   obtain⟨w',hst,hq⟩:=fin a w hI.size hI.defers hI.kept hI.world (fun i d hi hD=>hI.val i d (by omega) hD (all i hi))
   obtain⟨p1,ep1⟩:∃ p,a.tmps.getD 75 undef=p:=⟨_,rfl⟩
   obtain⟨p2,ep2⟩:∃ p,a.tmps.getD 74 undef=p:=⟨_,rfl⟩
   rw[ep1,ep2] at hst
   refine wSk (w':=w') ho e4 (by simp[execOp,e3,ev,ep1,ep2,hst]) ?_
   rw[e2]
   exact .inl ⟨by simp,hq⟩
 ·intro l a w hall hI
  rcases hI with⟨-,hq⟩|⟨h,-⟩
  ·exact hq
  ·rw[hall 14 (by rw[hsz];decide)] at h
   cases h
theorem Qff (a0:Option Addr)(d c0:Nat)(a1:Option Addr)(n c1:Nat)(A:Nat→Option Addr)(C:Nat→Nat)(K:Nat→List Int)(a2:Option Addr)(c2:Nat)(A':Nat→Option Addr)(C':Nat→Nat)(V:Nat→List Int)(w:World)
  (h1:Grid w a1 n A C K) (h2:Grid w a2 n A' C' V) (hd:0<d) (hn:0<n) (hr:∀ r,r<n→(K r).length=d∧(V r).length=d) :
  Calls Tryz.prog 107 #[.slice a0 d c0,.slice a1 n c1,.slice a2 n c2] w fun e w'=>e=.returned (.bool true)∧w'=w:=by
 have hm:=h1.max
 obtain⟨x,rfl⟩:=h1.some_ hn
 obtain⟨y,rfl⟩:=h2.some_ hn
 have c1':=fun k (hk:k<n)=>(hr k hk).1 ▸ h1.cell x rfl k hk
 have c2':=fun k (hk:k<n)=>(hr k hk).2 ▸ h2.cell y rfl k hk
 have pd:decide ((0:Int)<(d:Int))=true:=by simp;omega
 have pn:decide ((0:Int)<(n:Int))=true:=by simp;omega
 clear h1 h2 hr
 go_enter Tryz.func107,Tryz.ntmps107
 go_wp2
 go_loopw [7,8] (fun b i wr=>∃ k:Nat,k≤n∧i=I4 k∧b=.bool true∧wr=w) (fun _ i _=>n-(intOf i).toNat)
 case atStart=>exact⟨0,Nat.zero_le _,rfl,rfl,rfl⟩
 case round =>
  obtain⟨k,hk,rfl,rfl,hw⟩:=hrel
  subst hw
  by_cases hlt:k<n
  ·have cx:=c1' k hlt
   have cy:=c2' k hlt
   clear c1' c2'
   go_wp2
   go_roundw
   case rel=>exact⟨k+1,by omega,by go_num,by simp,trivial⟩
   case measure=>simp[intOf];omega
  ·have e:k=n:=by omega
   subst e
   go_wp2
   go_ret
   exact⟨rfl,rfl⟩
theorem Qc6 (x:Int)(w:World) :
  Calls Tryz.prog 75 #[I4 x] w fun e w'=>e=.returned (I4 (Qbe x))∧w'=w:=by
 have cb:=cZb x
 unfold Qbe
 obtain⟨c,ec⟩:∃ c,cZ x=c:=⟨_,rfl⟩
 rw[ec] at cb ⊢
 obtain⟨c0,c1⟩:=cb
 by_cases k:c<1
 ·rw[if_pos k]
  go_enter Tryz.func75,Tryz.ntmps75
  go_wp2_with (first|(go_at_call 73;refine (rCc _ _).mono ?_;rintro e w' ⟨rfl,rfl⟩))
  all_goals go_ret
  all_goals exact⟨rfl,rfl⟩
 ·rw[if_neg k]
  obtain⟨q0,q1⟩:=QcR c (by omega)
  unfold Qd2
  obtain⟨R,eR⟩:∃ R,rnd (281474976710656/c) 25 0=R:=⟨_,rfl⟩
  rw[eR]
  have ER:Hid (rnd (281474976710656/c) 25 0=R):=eR
  clear eR
  go_enter Tryz.func75,Tryz.ntmps75
  go_wp2_with (first|(go_at_call 73;refine (rCc _ _).mono ?_;rintro e w' ⟨rfl,rfl⟩))
  go_loop [3,4] (fun v b=>∃ (k:Nat) (r:Int),v=I4 r∧b=I4 (2 ^ k/2)∧0≤r∧r+2*(2 ^ k/2)≤33554432∧rnd (281474976710656/c) k r=R) (fun _ b=>(intOf b).toNat)
  case atStart=>exact⟨25,0,rfl,rfl,by decide,by decide,ER.out⟩
  case round =>
   obtain⟨k,r,rfl,rfl,r0,r1,er⟩:=hrel
   cases k with
   | zero =>
    have e:(2:Int) ^ 0/2=0:=by decide
    rw[e]
    clear r1 ER
    have E:Hid (rnd (281474976710656/c) 0 r=R):=er
    clear er
    go_wp2
    go_ret
    exact⟨QaE E.out,rfl⟩
   | succ k =>
    have e:(2:Int) ^ (k+1)/2=2 ^ k:=by rw[Int.pow_succ];omega
    have p:(0:Int)<2 ^ k:=Int.pow_pos (by decide)
    have er':rnd (281474976710656/c) k (if (r+2 ^ k)*(r+2 ^ k)≤(281474976710656/c) then r+2 ^ k else r)=R:=er
    rw[e] at r1 ⊢
    clear er e
    have sq:=Qgl (r+2 ^ k) (by omega) (by omega)
    have E:Hid (rnd (281474976710656/c) k (if (r+2 ^ k)*(r+2 ^ k)≤(281474976710656/c) then r+2 ^ k else r)=R):=er'
    clear er'
    obtain⟨B,eB⟩:∃ B,(2:Int) ^ k=B:=⟨_,rfl⟩
    rw[eB] at r1 p sq ⊢
    have EB:Hid ((2:Int) ^ k=B):=eB
    clear eB
    obtain⟨sq0,sq1⟩:=sq
    go_wp2
    ·have h:(r+B)*(r+B)≤(281474976710656/c):=by assumption
     go_round
     case rel =>
      have b:=EB.out
      have e:=E.out
      rw[b,if_pos h] at e
      exact⟨k,r+B,rfl,by rw[b],by omega,by rw[b];omega,e⟩
     case measure=>simp only[intOf];omega
    ·have h:¬(r+B)*(r+B)≤(281474976710656/c):=by omega
     go_round
     case rel =>
      have b:=EB.out
      have e:=E.out
      rw[b,if_neg h] at e
      exact⟨k,r,rfl,by rw[b],by omega,by rw[b];omega,e⟩
     case measure=>simp only[intOf];omega
end Go.Proofs.YthliomlmhfjhnaaGreat

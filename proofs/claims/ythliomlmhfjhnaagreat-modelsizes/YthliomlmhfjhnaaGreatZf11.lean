/- Texts put together. -/
import Derived.Test.YthliomlmhfjhnaaGreatRows
import Derived.Test.YthliomlmhfjhnaaGreatZf0
import Derived.Test.YthliomlmhfjhnaaGreatZf3
import Derived.Deep.OwnRows
namespace Go.Proofs.YthliomlmhfjhnaaGreat
set_option maxRecDepth 20000
set_option maxHeartbeats 16000000
open Go.ChangeShapes Go.WideShapes Go.ChangeAt Go.RowKit
set_option linter.unusedVariables false
set_option linter.unusedSimpArgs false
section
theorem betweenZ_bounds (f:Int)(h0:0≤f)(h1:f<65536):32768≤betweenZ f∧betweenZ f≤65536:=by
 have s:=powZ_steps (f/4096) (by omega) (by omega)
 have m:=prod_bounds (powZ (f/4096)-powZ (f/4096+1)) (f%4096) s.1 s.2.1 (by omega) (by omega)
 unfold betweenZ
 omega
theorem wf_i64_of {n:Int}(h0:-9223372036854775808≤n)(h1:n≤9223372036854775807):(Lit.int .i64 n).wf=true:=WalkArith.wf_i64 ⟨h0,h1⟩
theorem exp_call (x:Int)(w:World) :
  Calls Tryz.prog 134 #[.int .i64 x] w fun e w'=>e=.returned (.int .i64 (expZ x))∧Below w.heap.size w w':=by
 have tb:=tZ_bounds x
 have cb:=clampZ_bounds x
 have m:mulZ (min (clampZ x) 0) 94548 = -tZ x:=by unfold tZ;omega
 have fb:=betweenZ_bounds (tZ x%65536) (by omega) (by omega)
 unfold expZ
 obtain⟨t,et⟩:∃ t,tZ x=t:=⟨_,rfl⟩
 obtain⟨c,ec⟩:∃ c,clampZ x=c:=⟨_,rfl⟩
 rw[et] at tb m fb ⊢
 rw[ec] at cb m
 have wc:(Lit.int .i64 c).wf=true:=wf_i64_of (by omega) (by omega)
 obtain⟨t0,t1⟩:=tb
 obtain⟨c0,c1⟩:=cb
 obtain⟨f0,f1⟩:=fb
 clear et
 by_cases k:16<t/65536
 ·rw[if_pos k]
  rcases Int.lt_trichotomy c 0 with h|h|h
  ·have e:min c 0=c:=by omega
   rw[e] at m;clear e
   go_enter Tryz.func134,Tryz.ntmps134
   go_wp2_with (first|(go_at_call 114;refine (clamp_call _ _).mono ?_;rintro e w' ⟨rfl,rfl⟩)|(go_at_call 104;refine (mul_call _ _ (by first|assumption|decide) (by decide) _).mono ?_;rintro e w' ⟨rfl,rfl⟩))
   all_goals go_ret
   all_goals exact⟨rfl,Below.refl _ _⟩
  ·have e:min c 0=0:=by omega
   rw[e] at m;clear e;subst h
   go_enter Tryz.func134,Tryz.ntmps134
   go_wp2_with (first|(go_at_call 114;refine (clamp_call _ _).mono ?_;rintro e w' ⟨rfl,rfl⟩)|(go_at_call 104;refine (mul_call _ _ (by first|assumption|decide) (by decide) _).mono ?_;rintro e w' ⟨rfl,rfl⟩))
   all_goals go_ret
   all_goals exact⟨rfl,Below.refl _ _⟩
  ·have e:min c 0=0:=by omega
   rw[e] at m;clear e
   go_enter Tryz.func134,Tryz.ntmps134
   go_wp2_with (first|(go_at_call 114;refine (clamp_call _ _).mono ?_;rintro e w' ⟨rfl,rfl⟩)|(go_at_call 104;refine (mul_call _ _ (by first|assumption|decide) (by decide) _).mono ?_;rintro e w' ⟨rfl,rfl⟩))
   all_goals go_ret
   all_goals exact⟨rfl,Below.refl _ _⟩
 ·rw[if_neg k]
  rcases Int.lt_trichotomy c 0 with h|h|h
  ·have e:min c 0=c:=by omega
   rw[e] at m;clear e
   go_enter Tryz.func134,Tryz.ntmps134
   go_wp2_with (first|(go_at_call 114;refine (clamp_call _ _).mono ?_;rintro e w' ⟨rfl,rfl⟩)|(go_at_call 104;refine (mul_call _ _ (by first|assumption|decide) (by decide) _).mono ?_;rintro e w' ⟨rfl,rfl⟩)|(go_at_call 148;refine (between_call _ (by omega) (by omega) _).mono ?_;rintro e w' ⟨rfl,hg⟩))
   all_goals go_ret
   all_goals exact⟨rfl,by assumption⟩
  ·have e:min c 0=0:=by omega
   rw[e] at m;clear e;subst h
   go_enter Tryz.func134,Tryz.ntmps134
   go_wp2_with (first|(go_at_call 114;refine (clamp_call _ _).mono ?_;rintro e w' ⟨rfl,rfl⟩)|(go_at_call 104;refine (mul_call _ _ (by first|assumption|decide) (by decide) _).mono ?_;rintro e w' ⟨rfl,rfl⟩)|(go_at_call 148;refine (between_call _ (by omega) (by omega) _).mono ?_;rintro e w' ⟨rfl,hg⟩))
   all_goals go_ret
   all_goals exact⟨rfl,by assumption⟩
  ·have e:min c 0=0:=by omega
   rw[e] at m;clear e
   go_enter Tryz.func134,Tryz.ntmps134
   go_wp2_with (first|(go_at_call 114;refine (clamp_call _ _).mono ?_;rintro e w' ⟨rfl,rfl⟩)|(go_at_call 104;refine (mul_call _ _ (by first|assumption|decide) (by decide) _).mono ?_;rintro e w' ⟨rfl,rfl⟩)|(go_at_call 148;refine (between_call _ (by omega) (by omega) _).mono ?_;rintro e w' ⟨rfl,hg⟩))
   all_goals go_ret
   all_goals exact⟨rfl,by assumption⟩
theorem expZ_bounds (x:Int):0≤expZ x∧expZ x≤65536:=by
 have tb:=tZ_bounds x
 have fb:=betweenZ_bounds (tZ x%65536) (by omega) (by omega)
 unfold expZ
 split
 ·omega
 ·have d:=div_bounds (betweenZ (tZ x%65536)) (tZ x/65536).toNat (by omega)
  omega
def upZ (x:Int):Int:=divZ 65536 (65536+expZ (-x))
def sigZ (x:Int):Int:=if clampZ x<0 then 65536-upZ (-clampZ x) else upZ (clampZ x)
theorem upZ_eq (x : Int) : upZ x = 4294967296 / (65536 + expZ (-x)) := by
  have eb := expZ_bounds (-x)
  unfold upZ
  obtain ⟨v, ev⟩ : ∃ v, expZ (-x) = v := ⟨_, rfl⟩
  rw [ev] at eb ⊢
  obtain ⟨d, ed⟩ : ∃ d, 65536 + v = d := ⟨_, rfl⟩
  rw [ed]
  have d0 : 65536 ≤ d := by omega
  have d1 : d ≤ 131072 := by omega
  have e1 : clampZ d = d := by unfold clampZ; repeat' split
                               all_goals omega
  have e2 : clampZ 65536 = 65536 := by decide
  have q0 : 0 ≤ 4294967296 / d := Int.ediv_nonneg (by decide) (by omega)
  have q1 : 4294967296 / d ≤ 65536 := by
    have : 4294967296 / d < 65537 := Int.ediv_lt_of_lt_mul (by omega) (by omega)
    omega
  unfold divZ
  rw [e1, e2, if_neg (by omega), Int.tdiv_eq_ediv_of_nonneg (by decide)]
  show clampZ (wrap64 (4294967296 / d)) = 4294967296 / d
  generalize 4294967296 / d = Q at *
  rw [wrap64_eq]
  unfold clampZ
  repeat' split
  all_goals omega
theorem upZ_bounds (x:Int):32768≤upZ x∧upZ x≤65536:=by
 rw[upZ_eq]
 have eb:=expZ_bounds (-x)
 generalize expZ (-x)=v at *
 refine⟨?_,?_⟩
 ·exact Int.le_ediv_of_mul_le (by omega) (by omega)
 ·have:4294967296/(65536+v)<65537:=Int.ediv_lt_of_lt_mul (by omega) (by omega)
  omega
theorem sigZ_bounds (x:Int):0≤sigZ x∧sigZ x≤65536:=by
 have b1:=upZ_bounds (-clampZ x)
 have b2:=upZ_bounds (clampZ x)
 unfold sigZ
 split<;>omega
def siluZ (x:Int):Int:=mulZ x (sigZ x)
end
section
def topZ (b:Int)(z:List Int):Nat→Int
 | 0=>b
 | k+1=>max (topZ b z k) (clampZ (z.getD k 0))
theorem own_below {w w':World}{B:Nat}{e:TypeId}{v:Value}{n:Nat}{xs:List Value}(h:w.ownsRow B e 1 v n xs)(hb:Below w.heap.size w w'):w'.ownsRow B e 1 v n xs :=
 h.kept (row:=none) ⟨hb.os,hb.tape,hb.output,hb.size,fun k hk _=>hb.block k hk⟩ (by
  cases v.ownBlock with
  | none=>exact .inl rfl
  | some g=>exact .inr (fun e=>by cases e))
theorem greatest_call (a0:Option Addr)(n c0:Nat)(zs:List Int)(w:World)(h0:Reads .i64 w a0 n zs) :
  Calls Tryz.prog 133 #[.slice a0 n c0] w fun e w'=>e=.returned (.int .i64 (topZ (-2147483648) zs n))∧w'=w:=by
 have hm:=h0.max
 go_enter Tryz.func133,Tryz.ntmps133
 go_wp2
 go_loopw [3,7] (fun s i wr=>∃ k:Nat,k≤n∧i=.int .i64 k∧s=.int .i64 (topZ (-2147483648) zs k)∧wr=w) (fun _ i _=>n-(intOf i).toNat)
 case atStart=>exact⟨0,Nat.zero_le _,rfl,rfl,rfl⟩
 case round =>
  obtain⟨k,hk,rfl,rfl,hw⟩:=hrel
  subst hw
  by_cases hlt:k<n
  ·obtain⟨x,rfl⟩:=h0.some_ (by omega)
   have cx:=h0.cell x rfl k hlt
   have es:topZ (-2147483648) zs (k+1)=max (topZ (-2147483648) zs k) (clampZ (zs.getD k 0)):=rfl
   obtain⟨Z,eZ⟩:∃ Z,zs.getD k 0=Z:=⟨_,rfl⟩
   obtain⟨S,eS⟩:∃ S,topZ (-2147483648) zs k=S:=⟨_,rfl⟩
   rw[eZ] at cx es
   rw[eS] at es ⊢
   obtain⟨C,eC⟩:∃ C,clampZ Z=C:=⟨_,rfl⟩
   have kc:=fun W=>clamp_call Z W
   rw[eC] at es kc
   have Es:Hid (topZ (-2147483648) zs (k+1)=max S C):=es
   clear eZ eS es eC
   rcases Int.lt_trichotomy S C with h|h|h
   ·go_wp2_with (go_at_call 114;refine (kc _).mono ?_;rintro e w' ⟨rfl,h⟩;obtain rfl:=h.symm)
    all_goals
     go_roundw
     case rel=>exact⟨k+1,by omega,by go_num,by rw[Es.out];congr 1;omega,trivial⟩
     case measure=>simp[intOf];omega
   ·subst h
    go_wp2_with (go_at_call 114;refine (kc _).mono ?_;rintro e w' ⟨rfl,h⟩;obtain rfl:=h.symm)
    all_goals
     go_roundw
     case rel=>exact⟨k+1,by omega,by go_num,by rw[Es.out];congr 1;omega,trivial⟩
     case measure=>simp[intOf];omega
   ·go_wp2_with (go_at_call 114;refine (kc _).mono ?_;rintro e w' ⟨rfl,h⟩;obtain rfl:=h.symm)
    all_goals
     go_roundw
     case rel=>exact⟨k+1,by omega,by go_num,by rw[Es.out];congr 1;omega,trivial⟩
     case measure=>simp[intOf];omega
  ·have e:k=n:=by omega
   subst e
   go_wp2
   go_ret
   exact⟨rfl,rfl⟩
theorem topZ_bounds (b:Int)(z:List Int)(hb:b≤2147483647)(n:Nat):topZ b z n≤2147483647∧(0<n→-2147483648≤topZ b z n)∧b≤topZ b z n:=by
 induction n with
 | zero=>exact⟨hb,fun h=>by omega,Int.le_refl _⟩
 | succ n ih =>
  have c:=clampZ_bounds (z.getD n 0)
  obtain⟨i1,i2,i3⟩:=ih
  show max (topZ b z n) (clampZ (z.getD n 0))≤_∧(_→_≤max (topZ b z n) (clampZ (z.getD n 0)))∧b≤max (topZ b z n) (clampZ (z.getD n 0))
  clear i2
  omega
def powE (z:List Int)(t:Int)(j:Nat):Int:=expZ (clampZ (z.getD j 0)-t)
def sumE (z:List Int)(t:Int):Nat→Int
 | 0=>0
 | k+1=>sumE z t k+powE z t k
theorem powE_bounds (z:List Int)(t:Int)(j:Nat):0≤powE z t j∧powE z t j≤65536:=expZ_bounds _
theorem sumE_bounds (z:List Int)(t:Int)(k:Nat):0≤sumE z t k∧sumE z t k≤65536*(k:Int):=by
 induction k with
 | zero=>exact⟨Int.le_refl _,by simp[sumE]⟩
 | succ k ih =>
  have p:=powE_bounds z t k
  show 0≤sumE z t k+powE z t k∧sumE z t k+powE z t k≤_
  omega
def shareF (z:List Int)(t S:Int)(j:Nat):Int:=divZ (powE z t j) S
theorem wf_divZ (a b:Int):(Lit.int .i64 (divZ a b)).wf=true:=by
 unfold divZ
 split
 ·refine WalkArith.wf_i64 ?_
  unfold noughtZ
  repeat' split
  all_goals omega
 ·exact wf_clampZ _
def softZ (z:List Int)(n:Nat):List Int:=(List.range n).map (shareF z (topZ (-2147483648) z n) (sumE z (topZ (-2147483648) z n) n))
theorem soft_call (a0 : Option Addr) (n c0 : Nat) (zs : List Int) (w : World) (h0 : Reads .i64 w a0 n zs) (hb : n * 8 ≤ 281474976710656) :
    Calls Tryz.prog 118 #[.slice a0 n c0] w fun e w' => (∃ a c, e = .returned (.slice a n c) ∧ Reads .i64 w' a n (softZ zs n)) ∧ Below w.heap.size w w' := by
  obtain ⟨i0, hi, hz0, hz1, hz2⟩ := info_parts info2
  have hm := h0.max
  have kg := greatest_call a0 n c0 zs w h0
  have tb := topZ_bounds (-2147483648) zs (by decide) n
  unfold softZ
  obtain ⟨T, eT⟩ : ∃ T, topZ (-2147483648) zs n = T := ⟨_, rfl⟩
  rw [eT] at kg tb ⊢
  clear eT
  obtain ⟨tb1, -, tb0⟩ := tb
  go_enter Tryz.func118, Tryz.ntmps118
  go_wp2_with (first
    | (go_at_call 133; refine kg.mono ?_; rintro e w' ⟨rfl, h⟩; obtain rfl := h.symm)
    | (at_make; refine wpList_make_full _ rfl (.tmp 11) (.tmp 11) 34 rfl w.heap.size 2 i0 (.int .i64 0) 1 Tryz.underlying34 hi hz0 hz1 .i64 .i64 _ _ n rfl rfl rfl rfl (by rw [hz2]; omega) (by unfold maxLen; omega) (Nat.le_refl _) ?_; intro w1 hown hgrow))
  have hbel : Below w.heap.size w w1 := (Below.refl _ _).grown hgrow (Nat.le_refl _) (fun k h => by cases h)
  go_wp2
  go_loopw [5, 15] (fun s i wr => ∃ k : Nat, k ≤ n ∧ i = .int .i64 k ∧ s = .int .i64 (sumE zs T k) ∧ Below w.heap.size w wr ∧ ∃ cs, wr.ownsRow w.heap.size 2 1 (.slice (some ⟨w.heap.size, 0, none⟩) n n) n cs ∧ ∀ j, j < k → cs[j]? = some (.int .i64 (powE zs T j))) (fun _ i _ => n - (intOf i).toNat)
  case atStart => exact ⟨0, Nat.zero_le _, rfl, rfl, hbel, _, hown, fun j hj => by omega⟩
  case round =>
    obtain ⟨k, hk, rfl, rfl, hbr, cs, ho, hcs⟩ := hrel
    by_cases hlt : k < n
    · have hr := h0.below hbr
      obtain ⟨x, rfl⟩ := h0.some_ (by omega)
      have cx := hr.cell x rfl k hlt
      have hlen := own_length ho
      have sb := sumE_bounds zs T k
      have pb := powE_bounds zs T k
      have ep : powE zs T k = expZ (clampZ (zs.getD k 0) - T) := rfl
      have es : sumE zs T (k + 1) = sumE zs T k + powE zs T k := rfl
      have cb := clampZ_bounds (zs.getD k 0)
      have kc := fun W => clamp_call (zs.getD k 0) W
      have ke := fun W => exp_call (clampZ (zs.getD k 0) - T) W
      obtain ⟨E, eE⟩ : ∃ E, powE zs T k = E := ⟨_, rfl⟩
      obtain ⟨S, eS⟩ : ∃ S, sumE zs T k = S := ⟨_, rfl⟩
      rw [← ep] at ke
      rw [eE] at pb es ke
      rw [eS] at sb es ⊢
      have step := fun (W : World) (hs : W.ownsRow w.heap.size 2 1 (.slice (some ⟨w.heap.size, 0, none⟩) n n) n cs) => And.intro (hs.stored k (.int .i64 E)).1 (set_step (F := fun j => Value.int .i64 (powE zs T j)) hlen hlt (show Value.int .i64 E = .int .i64 (powE zs T k) by rw [eE]) hcs)
      obtain ⟨C, eC⟩ : ∃ C, clampZ (zs.getD k 0) = C := ⟨_, rfl⟩
      rw [eC] at cb kc ke
      obtain ⟨X, eX⟩ : ∃ X, zs.getD k 0 = X := ⟨_, rfl⟩
      rw [eX] at cx kc
      obtain ⟨u, hu⟩ : ∃ u, cs[k]? = some u := ⟨cs[k], by simp [hlen, hlt]⟩
      obtain ⟨s0, s1⟩ := sb
      obtain ⟨p0, p1⟩ := pb
      obtain ⟨q0, q1⟩ := cb
      have Es : Hid (sumE zs T (k + 1) = S + E) := es
      clear es eE eS eC eX ep hr hown hgrow hbel hi hz0 hz1 hz2 kg
      go_wp2_with (first
        | (go_at_call 114; refine (kc _).mono ?_; rintro e w' ⟨rfl, h⟩; obtain rfl := h.symm)
        | (go_at_call 134; refine (ke _).mono ?_; rintro e W2 ⟨rfl, hb2⟩
           have ho2 := own_below ho hb2
           have cell2 : W2.cell? ⟨w.heap.size, k, none⟩ = some u := (ho2.cellAt k (by omega)).trans hu
           have froz2 := ho2.frozenAt k
           have st2 := step W2 ho2
           have cell3 : (W2.setCell ⟨w.heap.size, k, none⟩ (.int .i64 E)).cell? ⟨w.heap.size, k, none⟩ = some (.int .i64 E) := by
             rw [st2.1.cellAt k (by omega)]; simp [hlen, hlt]
           have R : Hid (Below w.heap.size w (W2.setCell ⟨w.heap.size, k, none⟩ (.int .i64 E)) ∧ ∃ cs', (W2.setCell ⟨w.heap.size, k, none⟩ (.int .i64 E)).ownsRow w.heap.size 2 1 (.slice (some ⟨w.heap.size, 0, none⟩) n n) n cs' ∧ ∀ j, j < k + 1 → cs'[j]? = some (.int .i64 (powE zs T j))) :=
             ⟨(bTn hbr hb2).setCell (Nat.le_refl _) _, _, st2.1, st2.2⟩
           clear ho2 st2 hb2))
      go_roundw
      case rel => exact ⟨k + 1, by omega, by go_num, by rw [Es.out], R.out⟩
      case measure => simp [intOf]; omega
    · have e : k = n := by omega
      subst e
      rename World => W1
      have sb := sumE_bounds zs T k
      obtain ⟨S, eS⟩ : ∃ S, sumE zs T k = S := ⟨_, rfl⟩
      have ES : Hid (sumE zs T k = S) := eS
      rw [eS] at sb ⊢
      clear eS
      have wS : (Lit.int .i64 S).wf = true := WalkArith.wf_i64 ⟨by omega, by omega⟩
      go_wp2
      go_loopw [38] (fun i wr => ∃ j : Nat, j ≤ k ∧ i = .int .i64 j ∧ Below w.heap.size w wr ∧ ∃ ds, wr.ownsRow w.heap.size 2 1 (.slice (some ⟨w.heap.size, 0, none⟩) k k) k ds ∧ (∀ i, i < j → ds[i]? = some (.int .i64 (shareF zs T S i))) ∧ ∀ i, j ≤ i → i < k → ds[i]? = some (.int .i64 (powE zs T i))) (fun i _ => k - (intOf i).toNat)
      case atStart => exact ⟨0, Nat.zero_le _, rfl, hbr, _, ho, fun j hj => by omega, fun i _ hi => hcs i hi⟩
      case round =>
        clear hcs ho hbr
        obtain ⟨j, hj, rfl, hbr, ds, ho, h1, h2⟩ := hrel
        by_cases hlt : j < k
        · have hlen := own_length ho
          have cell : wr.cell? ⟨w.heap.size, j, none⟩ = some (.int .i64 (powE zs T j)) := (ho.cellAt j (by omega)).trans (h2 j (Nat.le_refl _) hlt)
          have froz := ho.frozenAt j
          have pb := powE_bounds zs T j
          have kd := fun (w' : (Lit.int .i64 (powE zs T j)).wf = true) W => div_call (powE zs T j) S w' wS W
          have ef : divZ (powE zs T j) S = shareF zs T S j := rfl
          rw [ef] at kd
          have R : Hid (Below w.heap.size w (wr.setCell ⟨w.heap.size, j, none⟩ (.int .i64 (shareF zs T S j))) ∧ ∃ ds', (wr.setCell ⟨w.heap.size, j, none⟩ (.int .i64 (shareF zs T S j))).ownsRow w.heap.size 2 1 (.slice (some ⟨w.heap.size, 0, none⟩) k k) k ds' ∧ (∀ i, i < j + 1 → ds'[i]? = some (.int .i64 (shareF zs T S i))) ∧ ∀ i, j + 1 ≤ i → i < k → ds'[i]? = some (.int .i64 (powE zs T i))) :=
            ⟨hbr.setCell (Nat.le_refl _) _, _, (ho.stored j _).1, set_step (F := fun i => Value.int .i64 (shareF zs T S i)) hlen hlt rfl h1, fun i h hi => by rw [List.getElem?_set_ne (by omega)]; exact h2 i (by omega) hi⟩
          obtain ⟨E, eE⟩ : ∃ E, powE zs T j = E := ⟨_, rfl⟩
          obtain ⟨G, eG⟩ : ∃ G, shareF zs T S j = G := ⟨_, rfl⟩
          rw [eE] at cell pb kd
          rw [eG] at kd R
          have wE : (Lit.int .i64 E).wf = true := WalkArith.wf_i64 ⟨by omega, by omega⟩
          clear eE eG ef h1 h2 ho hlen hbr hown hgrow hbel hi hz0 hz1 hz2 kg
          go_wp2_with (go_at_call 135; refine (kd wE _).mono ?_; rintro e w' ⟨rfl, h⟩; obtain rfl := h.symm)
          go_roundw
          case rel => exact ⟨j + 1, by omega, by go_num, R.out⟩
          case measure => simp [intOf]; omega
        · have e : j = k := by omega
          subst e
          have fin := own_reads_at (zs := (List.range j).map (shareF zs T (sumE zs T j))) ho (by simp) (fun z hz => by obtain ⟨y, _, rfl⟩ := List.mem_map.1 hz; exact wf_divZ _ _) (fun i hi => by rw [h1 i hi, ES.out]; simp [hi])
          clear h1 h2 ho
          go_wp2
          go_ret
          exact ⟨⟨_, _, rfl, fin⟩, hbr⟩
end
section
theorem info34:(Tryz.prog.info? 34).map (fun i=>(i.zero,i.size,i.bytes))=some (some (.slice none 0 0),1,24):=by kernel_rfl
def heads (A:Nat→Option Addr)(C:Nat→Nat)(R:Nat→List Int)(k:Nat):List Value:=(List.range k).map fun r=>.slice (A r) (R r).length (C r)
theorem heads_congr {A A':Nat→Option Addr}{C C':Nat→Nat}{R:Nat→List Int}{k:Nat}(h:∀ r,r<k→A r=A' r∧C r=C' r):heads A C R k=heads A' C' R k:=by
 unfold heads
 refine List.map_congr_left fun r hr=>?_
 rw[(h r (List.mem_range.1 hr)).1,(h r (List.mem_range.1 hr)).2]
theorem heads_succ (A:Nat→Option Addr)(C:Nat→Nat)(R:Nat→List Int)(k:Nat):heads A C R (k+1)=heads A C R k++[.slice (A k) (R k).length (C k)]:=by
 simp[heads,List.range_succ]
structure OwnGrid (B:Nat) (w:World) (v:Value) (k:Nat) (A:Nat→Option Addr) (C:Nat→Nat) (R:Nat→List Int):Prop where
 own:w.ownsRow B 34 1 v k (heads A C R k)
 row:∀ r,r<k→Reads .i64 w (A r) (R r).length (R r)
 apart:∀ r,r<k→0<(R r).length→∀ x,A r=some x→∀ g,v.ownBlock=some g→x.block≠g
theorem OwnGrid.nil (B:Nat)(w:World)(A:Nat→Option Addr)(C:Nat→Nat)(R:Nat→List Int):OwnGrid B w (.slice none 0 0) 0 A C R :=
 ⟨World.ownsRow_nil _ _ _ _,fun r h=>by omega,fun r h=>by omega⟩
theorem OwnGrid.below {B:Nat}{w w':World}{v:Value}{k:Nat}{A:Nat→Option Addr}{C:Nat→Nat}{R:Nat→List Int}(h:OwnGrid B w v k A C R)(hb:Below w.heap.size w w'):OwnGrid B w' v k A C R :=
 ⟨own_below h.own hb,fun r hr=>(h.row r hr).below hb,h.apart⟩
theorem Reads.grown {k:IntKind}{w w':World}{a:Option Addr}{n:Nat}{zs:List Int}{row:Option Nat}(h:Reads k w a n zs)(hg:w.grownBy w' row)(ha:0<n→∀ x,a=some x→∀ g,row=some g→x.block≠g):Reads k w' a n zs :=
 ⟨h.len,h.max,h.wf,h.some_,fun x hx i hi=>hg.cell (h.cell x hx i hi) (fun e=>by
  exact ha (by omega) x hx _ e.symm (by simp only[Addr.add];split<;>rfl))⟩
theorem OwnGrid.app {B:Nat}{w w':World}{v v':Value}{k:Nat}{A:Nat→Option Addr}{C:Nat→Nat}{R:Nat→List Int}(h:OwnGrid B w v k A C R){p:Option Addr}{c:Nat}{V:Value}(hV:V=.slice p (R k).length c)
  (hr:Reads .i64 w p (R k).length (R k)) (hp:0<(R k).length→∀ x,p=some x→∀ g,v.ownBlock=some g→x.block≠g)
  (ho:w'.ownsRow B 34 1 v' (k+1) (heads A C R k++[V])) (hg:w.grownBy w' v.ownBlock) (hs:Stays w v v') :
  OwnGrid B w' v' (k+1) (fun r=>if r=k then p else A r) (fun r=>if r=k then c else C r) R:=by
 subst hV
 have cell_lt:∀ (a:Option Addr) (zs:List Int),Reads .i64 w a zs.length zs→0<zs.length→∀ x,a=some x→x.block<w.heap.size:=fun a zs q h0 x hx=>by
  have:=World.block_lt_of_cell? w _ (q.cell x hx 0 h0)
  simpa [Addr.add] using this
 have new:∀ (a:Option Addr) (zs:List Int),Reads .i64 w a zs.length zs→(0<zs.length→∀ x,a=some x→∀ g,v.ownBlock=some g→x.block≠g)→(0<zs.length→∀ x,a=some x→∀ g,v'.ownBlock=some g→x.block≠g):=fun a zs q hh h0 x hx g hg'=>by
  rcases hs with e|e
  ·exact hh h0 x hx g (e ▸ hg')
  ·have h1:=e g hg'
   have h2:=cell_lt a zs q h0 x hx
   omega
 refine⟨?_,fun r hr'=>?_,fun r hr' h0 x hx g hg'=>?_⟩
 ·rw[heads_succ]
  rw[heads_congr (A':=A) (C':=C) (fun r hr=>by simp only[if_neg (show r≠k by omega),and_self])]
  simpa using ho
 ·by_cases e:r=k
  ·subst e
   simp only[if_true]
   exact hr.grown hg hp
  ·simp only[if_neg e]
   exact (h.row r (by omega)).grown hg (h.apart r (by omega))
 ·by_cases e:r=k
  ·subst e
   simp only[if_true] at hx
   exact new p (R r) hr hp h0 x hx g hg'
  ·simp only[if_neg e] at hx
   exact new (A r) (R r) (h.row r (by omega)) (h.apart r (by omega)) h0 x hx g hg'
theorem OwnGrid.grid {B:Nat}{w:World}{v:Value}{k:Nat}{A:Nat→Option Addr}{C:Nat→Nat}{R:Nat→List Int}(h:OwnGrid B w v k A C R):∃ a c,v=.slice a k c∧Grid w a k A C R:=by
 rcases h.own.2 with⟨rfl,rfl⟩|⟨g,cap,cur,rfl,_,hg,hn,hm,hs,ht⟩
 ·exact⟨none,0,rfl,by omega,fun h=>by omega,fun x hx=>(by cases hx),fun r hr=>by omega⟩
 ·refine⟨_,_,rfl,by unfold maxLen at hm;omega,fun _=>⟨_,rfl⟩,fun x hx r hr=>?_,h.row⟩
  obtain rfl:=Option.some.inj hx
  exact h.own.cells (g:=g) rfl r _ (by simp[heads,hr])
end
section
def Only (b:Nat)(w w':World):Prop:=w.grownBy w' (some b)
theorem Only.refl (b:Nat)(w:World):Only b w w:=⟨rfl,rfl,rfl,Nat.le_refl _,fun _ _ _=>rfl⟩
theorem Only.trans {b:Nat}{w w' w'':World}(h:Only b w w')(k:Only b w' w''):Only b w w'' :=
 ⟨k.os.trans h.os,k.tape.trans h.tape,k.output.trans h.output,Nat.le_trans h.size k.size,fun i hi hn=>(k.block i (Nat.lt_of_lt_of_le hi h.size) hn).trans (h.block i hi hn)⟩
theorem Only.set (b o:Nat)(w:World)(v:Value):Only b w (w.setCell ⟨b,o,none⟩ v) :=
 ⟨rfl,rfl,rfl,by simp[World.setCell],fun k _ hn=>Below.heap_setCell _ _ _ _ (fun e=>hn (by rw[e]))⟩
theorem Only.of_below {b:Nat}{w w':World}(h:Below w.heap.size w w'):Only b w w':=⟨h.os,h.tape,h.output,h.size,fun k hk _=>h.block k hk⟩
theorem Only.below {B b:Nat}{w w' w'':World}(h:Below B w w')(hB:B≤b)(hw:B≤w'.heap.size)(k:Only b w' w''):Below B w w'' :=
 h.grown k hw (fun i hi=>by obtain rfl:=Option.some.inj hi;exact hB)
theorem Only.drewN {b:Nat}{w w':World}(h:Only b w w')(m:Nat):Only b w (w'.drewN m):=⟨h.os,h.tape,h.output,h.size,h.block⟩
variable {t:TypeId}{w w':World}{b:Nat}{s:ByteArray}{e:Int}
theorem Reads.other {k:IntKind}{c:Nat}{a:Option Addr}{n:Nat}{zs:List Int}(h:Reads k w a n zs)(hb:Only c w w')(hc:∀ x,a=some x→0<n→x.block≠c):Reads k w' a n zs :=
 ⟨h.len,h.max,h.wf,h.some_,fun x hx i hi=>hb.cell (h.cell x hx i hi) (fun e=>hc x hx (by omega) (by by_cases hz:i=0<;>simpa [Addr.add,hz] using e))⟩
end
section
theorem wVb {P:Program}{ops:Array Oper}{Q:Exit→Act→World→Prop}{i gi p:Nat}{bb:Bool}{o og:Oper}{a:Act}{w w':World}{v:Value}{K:Act→World→Prop}(ho:ops[i]? = some o)(hg:o.guard=some (gi,bb))(hgo:ops[gi]? = some og)(hgd:og.dst=some p)(hp:p<a.tmps.size)(hb:a.tmps.getD p undef=.bool bb)
  (hr:(execOp a.eval o).run P w=.ok (.value v) w') (hK:K (a.put o.dst v) w'):wpOp P ops Q i K a w:=by
 have hy:yielded ops a.tmps gi=some bb:=by
  unfold yielded
  rw[hgo]
  simp only[Option.bind_some,hgd]
  rw[Array.getD_eq_getD_getElem?] at hb
  rw[Array.getElem?_eq_getElem hp] at hb ⊢
  simp only[Option.getD_some] at hb
  rw[hb]
 unfold wpOp
 simp only[ho]
 have hw:Region.wanted o (yielded ops a.tmps)=true:=by simp[Region.wanted,hg,hy]
 rw[if_pos hw]
 refine .inl ?_
 unfold Oper.wp
 rw[hr]
 exact hK
theorem wCb {P:Program}{ops:Array Oper}{Q:Exit→Act→World→Prop}{i gi p:Nat}{bb:Bool}{o og:Oper}{a:Act}{w:World}{f:FuncId}{args:Array Value}{K:Act→World→Prop}(ho:ops[i]? = some o)(hg:o.guard=some (gi,bb))(hgo:ops[gi]? = some og)(hgd:og.dst=some p)(hp:p<a.tmps.size)(hb:a.tmps.getD p undef=.bool bb)
  (hr:(execOp a.eval o).run P w=.ok (.enter f args) w) (c:Calls P f args w fun e w'=>∃ v,e=.returned v∧K (a.put o.dst v) w'):wpOp P ops Q i K a w:=by
 have hy:yielded ops a.tmps gi=some bb:=by
  unfold yielded
  rw[hgo]
  simp only[Option.bind_some,hgd]
  rw[Array.getD_eq_getD_getElem?] at hb
  rw[Array.getElem?_eq_getElem hp] at hb ⊢
  simp only[Option.getD_some] at hb
  rw[hb]
 unfold wpOp
 simp only[ho]
 have hw:Region.wanted o (yielded ops a.tmps)=true:=by simp[Region.wanted,hg,hy]
 rw[if_pos hw]
 refine .inl ?_
 unfold Oper.wp
 rw[hr]
 unfold Oper.upon
 refine c.mono ?_
 rintro e w' ⟨v,rfl,hK⟩
 exact hK
end
section
abbrev nilS:Value:=.slice none 0 0
theorem info65:(Tryz.prog.info? 65).map (fun i=>(i.zero,i.size,i.bytes))=some (some (.agg #[nilS,nilS,nilS,nilS,nilS,nilS,nilS,nilS,nilS]),9,216):=by kernel_rfl
theorem info24:(Tryz.prog.info? 24).map (fun i=>(i.zero,i.size,i.bytes))=some (some nilS,1,24):=by kernel_rfl
theorem networks_call (d h l v u x t n:Int)(w:World):Calls Tryz.prog 112 #[.agg #[.int .i64 d,.int .i64 h,.int .i64 l,.int .i64 v,.int .i64 u,.int .i64 x,.int .i64 t,.int .i64 n]] w fun e w'=>e=.returned (.int .i64 (max x 1))∧∃ o,w'=w.alloc o:=by
 rcases Int.lt_trichotomy x 1 with h0|rfl|h0
 ·rw[show max x 1=1 by omega]
  go_enter Tryz.func112,Tryz.ntmps112
  go_wp2
  go_ret
  exact⟨rfl,_,rfl⟩
 ·go_enter Tryz.func112,Tryz.ntmps112
  go_wp2
  go_ret
  exact⟨rfl,_,rfl⟩
 ·rw[show max x 1=x by omega]
  go_enter Tryz.func112,Tryz.ntmps112
  go_wp2
  go_ret
  exact⟨rfl,_,rfl⟩
theorem Blk.new_at (t:TypeId)(w:World)(cs:Array Value)(g:Nat)(hg:g=w.heap.size):Blk t (w.alloc (.cells cs t)) g cs:=by
 subst hg
 exact Blk.new t w cs
theorem Blk.other {t:TypeId}{w:World}{b:Nat}{cs:Array Value}(h:Blk t w b cs){a:Addr}(v:Value)(ha:b≠a.block):Blk t (w.setCell a v) b cs:=(Below.heap_setCell _ _ _ _ ha).trans h
theorem set12 {t:TypeId}{W:World}{b:Nat}{x0 x1 x2 x3 x4 x5 x6 x7 x8 x9 x10 x11:Value}(h:Blk t W b #[x0,x1,x2,x3,x4,x5,x6,x7,x8,x9,x10,x11])(v0 v1 v2 v3 v4 v5 v6 v7 v8 v9 v10 v11:Value) :
  ∃ W',((((((((((((W.setCell ⟨b,0,none⟩ v0).setCell ⟨b,1,none⟩ v1).setCell ⟨b,2,none⟩ v2).setCell ⟨b,3,none⟩ v3).setCell ⟨b,4,none⟩ v4).setCell ⟨b,5,none⟩ v5).setCell ⟨b,6,none⟩ v6).setCell ⟨b,7,none⟩ v7).setCell ⟨b,8,none⟩ v8).setCell ⟨b,9,none⟩ v9).setCell ⟨b,10,none⟩ v10).setCell ⟨b,11,none⟩ v11)=W'∧Blk t W' b #[v0,v1,v2,v3,v4,v5,v6,v7,v8,v9,v10,v11]∧Only b W W'∧W'.heap.size=W.heap.size:=by
 have z0:W.heap.size=W.heap.size:=rfl
 have s1:Blk t (W.setCell ⟨b,0,none⟩ v0) b #[v0,x1,x2,x3,x4,x5,x6,x7,x8,x9,x10,x11]:=h.set 0 v0
 have n1:=(Only.set b 0 W v0)
 have z1:(W.setCell ⟨b,0,none⟩ v0).heap.size=W.heap.size:=(by simp[World.setCell]:_=W.heap.size).trans z0
 obtain⟨W1,e1⟩:∃ W1,W.setCell ⟨b,0,none⟩ v0=W1:=⟨_,rfl⟩
 rw[e1] at s1 n1 z1 ⊢
 have s2:Blk t (W1.setCell ⟨b,1,none⟩ v1) b #[v0,v1,x2,x3,x4,x5,x6,x7,x8,x9,x10,x11]:=s1.set 1 v1
 have n2:=n1.trans (Only.set b 1 W1 v1)
 have z2:(W1.setCell ⟨b,1,none⟩ v1).heap.size=W.heap.size:=(by simp[World.setCell]:_=W1.heap.size).trans z1
 obtain⟨W2,e2⟩:∃ W2,W1.setCell ⟨b,1,none⟩ v1=W2:=⟨_,rfl⟩
 rw[e2] at s2 n2 z2 ⊢
 have s3:Blk t (W2.setCell ⟨b,2,none⟩ v2) b #[v0,v1,v2,x3,x4,x5,x6,x7,x8,x9,x10,x11]:=s2.set 2 v2
 have n3:=n2.trans (Only.set b 2 W2 v2)
 have z3:(W2.setCell ⟨b,2,none⟩ v2).heap.size=W.heap.size:=(by simp[World.setCell]:_=W2.heap.size).trans z2
 obtain⟨W3,e3⟩:∃ W3,W2.setCell ⟨b,2,none⟩ v2=W3:=⟨_,rfl⟩
 rw[e3] at s3 n3 z3 ⊢
 have s4:Blk t (W3.setCell ⟨b,3,none⟩ v3) b #[v0,v1,v2,v3,x4,x5,x6,x7,x8,x9,x10,x11]:=s3.set 3 v3
 have n4:=n3.trans (Only.set b 3 W3 v3)
 have z4:(W3.setCell ⟨b,3,none⟩ v3).heap.size=W.heap.size:=(by simp[World.setCell]:_=W3.heap.size).trans z3
 obtain⟨W4,e4⟩:∃ W4,W3.setCell ⟨b,3,none⟩ v3=W4:=⟨_,rfl⟩
 rw[e4] at s4 n4 z4 ⊢
 have s5:Blk t (W4.setCell ⟨b,4,none⟩ v4) b #[v0,v1,v2,v3,v4,x5,x6,x7,x8,x9,x10,x11]:=s4.set 4 v4
 have n5:=n4.trans (Only.set b 4 W4 v4)
 have z5:(W4.setCell ⟨b,4,none⟩ v4).heap.size=W.heap.size:=(by simp[World.setCell]:_=W4.heap.size).trans z4
 obtain⟨W5,e5⟩:∃ W5,W4.setCell ⟨b,4,none⟩ v4=W5:=⟨_,rfl⟩
 rw[e5] at s5 n5 z5 ⊢
 have s6:Blk t (W5.setCell ⟨b,5,none⟩ v5) b #[v0,v1,v2,v3,v4,v5,x6,x7,x8,x9,x10,x11]:=s5.set 5 v5
 have n6:=n5.trans (Only.set b 5 W5 v5)
 have z6:(W5.setCell ⟨b,5,none⟩ v5).heap.size=W.heap.size:=(by simp[World.setCell]:_=W5.heap.size).trans z5
 obtain⟨W6,e6⟩:∃ W6,W5.setCell ⟨b,5,none⟩ v5=W6:=⟨_,rfl⟩
 rw[e6] at s6 n6 z6 ⊢
 have s7:Blk t (W6.setCell ⟨b,6,none⟩ v6) b #[v0,v1,v2,v3,v4,v5,v6,x7,x8,x9,x10,x11]:=s6.set 6 v6
 have n7:=n6.trans (Only.set b 6 W6 v6)
 have z7:(W6.setCell ⟨b,6,none⟩ v6).heap.size=W.heap.size:=(by simp[World.setCell]:_=W6.heap.size).trans z6
 obtain⟨W7,e7⟩:∃ W7,W6.setCell ⟨b,6,none⟩ v6=W7:=⟨_,rfl⟩
 rw[e7] at s7 n7 z7 ⊢
 have s8:Blk t (W7.setCell ⟨b,7,none⟩ v7) b #[v0,v1,v2,v3,v4,v5,v6,v7,x8,x9,x10,x11]:=s7.set 7 v7
 have n8:=n7.trans (Only.set b 7 W7 v7)
 have z8:(W7.setCell ⟨b,7,none⟩ v7).heap.size=W.heap.size:=(by simp[World.setCell]:_=W7.heap.size).trans z7
 obtain⟨W8,e8⟩:∃ W8,W7.setCell ⟨b,7,none⟩ v7=W8:=⟨_,rfl⟩
 rw[e8] at s8 n8 z8 ⊢
 have s9:Blk t (W8.setCell ⟨b,8,none⟩ v8) b #[v0,v1,v2,v3,v4,v5,v6,v7,v8,x9,x10,x11]:=s8.set 8 v8
 have n9:=n8.trans (Only.set b 8 W8 v8)
 have z9:(W8.setCell ⟨b,8,none⟩ v8).heap.size=W.heap.size:=(by simp[World.setCell]:_=W8.heap.size).trans z8
 obtain⟨W9,e9⟩:∃ W9,W8.setCell ⟨b,8,none⟩ v8=W9:=⟨_,rfl⟩
 rw[e9] at s9 n9 z9 ⊢
 have s10:Blk t (W9.setCell ⟨b,9,none⟩ v9) b #[v0,v1,v2,v3,v4,v5,v6,v7,v8,v9,x10,x11]:=s9.set 9 v9
 have n10:=n9.trans (Only.set b 9 W9 v9)
 have z10:(W9.setCell ⟨b,9,none⟩ v9).heap.size=W.heap.size:=(by simp[World.setCell]:_=W9.heap.size).trans z9
 obtain⟨W10,e10⟩:∃ W10,W9.setCell ⟨b,9,none⟩ v9=W10:=⟨_,rfl⟩
 rw[e10] at s10 n10 z10 ⊢
 have s11:Blk t (W10.setCell ⟨b,10,none⟩ v10) b #[v0,v1,v2,v3,v4,v5,v6,v7,v8,v9,v10,x11]:=s10.set 10 v10
 have n11:=n10.trans (Only.set b 10 W10 v10)
 have z11:(W10.setCell ⟨b,10,none⟩ v10).heap.size=W.heap.size:=(by simp[World.setCell]:_=W10.heap.size).trans z10
 obtain⟨W11,e11⟩:∃ W11,W10.setCell ⟨b,10,none⟩ v10=W11:=⟨_,rfl⟩
 rw[e11] at s11 n11 z11 ⊢
 have s12:Blk t (W11.setCell ⟨b,11,none⟩ v11) b #[v0,v1,v2,v3,v4,v5,v6,v7,v8,v9,v10,v11]:=s11.set 11 v11
 have n12:=n11.trans (Only.set b 11 W11 v11)
 have z12:(W11.setCell ⟨b,11,none⟩ v11).heap.size=W.heap.size:=(by simp[World.setCell]:_=W11.heap.size).trans z11
 obtain⟨W12,e12⟩:∃ W12,W11.setCell ⟨b,11,none⟩ v11=W12:=⟨_,rfl⟩
 rw[e12] at s12 n12 z12 ⊢
 exact⟨_,rfl,s12,n12,z12⟩
end
section
def perZ (d dd xd ud:Int)(ne:Nat):Int:=d+dd+dd+dd+dd+d+xd+(ne:Int)*(ud+ud)
theorem wrap_small {z:Int}(h:0≤z∧z≤1000):IntKind.i64.wrap z=z:=by
 rw[IntKind.wrap_i64]
 omega
theorem int_upto {i m:Nat}{z:Int}(h:i≤m)(hz:0≤z):0≤(i:Int)*z∧(i:Int)*z≤(m:Int)*z :=
 ⟨Int.mul_nonneg (by omega) hz,Int.mul_le_mul_of_nonneg_right (by omega) hz⟩
end
section
theorem copied1 {k:IntKind}{e:TypeId}{W W1:World}{m:Nat}{zs:List Int}{v:Value}(ho:W1.ownsRow W.heap.size e 1 v (0+m) ([]++zs.map (Value.int k)))(hg:(W.alloc (.cells #[] e)).grownBy W1 (Value.slice (some ⟨W.heap.size,0,none⟩) 0 0).ownBlock)
  {a:Option Addr}{wz:World} (hr:Reads k wz a m zs):∃ b c,v=.slice b m c∧Reads k W1 b m zs∧Below W.heap.size W W1∧(b=none→c=0)∧m≤c∧∀ y,b=some y→W.heap.size≤y.block:=by
 obtain⟨a1,c1,e1,r1,hb,n1,l1⟩:=copied (W:=W) (w:=W) (Below.refl _ W) (.cells #[] e) ho hg hr
 refine⟨a1,c1,e1,r1,hb,n1,l1,fun y hy=>?_⟩
 simp only[Nat.zero_add,List.nil_append] at ho
 rw[e1,hy] at ho
 exact (ho.lt y.block (by simp[Value.ownBlock])).1
end
section
def sumZ (a b:List Int):Nat→Int
 | 0=>0
 | k+1=>addZ (sumZ a b k) (clampZ (a.getD k 0)*clampZ (b.getD k 0))
theorem wf_sumZ (a b:List Int)(k:Nat):(Lit.int .i64 (sumZ a b k)).wf=true:=by
 cases k with
 | zero=>show (Lit.int .i64 0).wf=true;decide
 | succ k=>exact wf_addZ _ _
theorem prodD_bounds (x y:Int)(hx:-2147483648≤x∧x≤2147483647)(hy:-2147483648≤y∧y≤2147483647):-4611686018427387904≤x*y∧x*y≤4611686018427387904:=by
 have h:(x*y).natAbs≤2147483648*2147483648:=by
  rw[Int.natAbs_mul]
  exact Nat.mul_le_mul (by omega) (by omega)
 omega
def atdotZ (a b:List Int)(bits:Int):Int:=clampZ (shiftZ (sumZ a b a.length) bits)
theorem products64_call (a0:Option Addr)(n c0:Nat)(zs:List Int)(a1:Option Addr)(c1:Nat)(xs:List Int)(bits:Int)(w:World)
  (h0:Reads .i64 w a0 n zs) (h1:Reads .i64 w a1 n xs) (hb:(Lit.int .i64 bits).wf=true) :
  Calls Tryz.prog 150 #[.slice a0 n c0,.slice a1 n c1,.int .i64 bits] w fun e w'=>e=.returned (.int .i64 (atdotZ zs xs bits))∧∃ m,w'=w.drewN m:=by
 have hm:=h0.max
 have hl:zs.length=n:=h0.len
 unfold atdotZ
 rw[hl]
 clear hl
 go_enter Tryz.func150,Tryz.ntmps150
 go_wp2
 go_loopw [7,12] (fun s i wr=>∃ k:Nat,k≤n∧i=.int .i64 k∧s=.int .i64 (sumZ zs xs k)∧∃ m,wr=w.drewN m) (fun _ i _=>n-(intOf i).toNat)
 case atStart=>exact⟨0,Nat.zero_le _,rfl,rfl,0,rfl⟩
 case round =>
  obtain⟨k,hk,rfl,rfl,m,hw⟩:=hrel
  by_cases hlt:k<n
  ·obtain⟨x,rfl⟩:=h0.some_ (by omega)
   obtain⟨y,rfl⟩:=h1.some_ (by omega)
   have cx:wr.cell? (x.add k)=some (.int .i64 (zs.getD k 0)):=by rw[hw];exact h0.cell x rfl k hlt
   have cy:wr.cell? (y.add k)=some (.int .i64 (xs.getD k 0)):=by rw[hw];exact h1.cell y rfl k hlt
   have Hw:Hid (wr=w.drewN m):=hw
   clear hw
   have wz:=h0.wf k
   have es:sumZ zs xs (k+1)=addZ (sumZ zs xs k) (clampZ (zs.getD k 0)*clampZ (xs.getD k 0)):=rfl
   have ws:=wf_sumZ zs xs k
   obtain⟨Z,eZ⟩:∃ Z,zs.getD k 0=Z:=⟨_,rfl⟩
   obtain⟨X,eX⟩:∃ X,xs.getD k 0=X:=⟨_,rfl⟩
   obtain⟨S,eS⟩:∃ S,sumZ zs xs k=S:=⟨_,rfl⟩
   rw[eZ] at cx es wz
   rw[eX] at cy es
   rw[eS] at es ws ⊢
   have Es:Hid (sumZ zs xs (k+1)=addZ S (clampZ Z*clampZ X)):=es
   clear eZ eX eS es
   have bz:=clampZ_bounds Z
   have bx:=clampZ_bounds X
   have bp:=prodD_bounds _ _ bz bx
   have wp:(Lit.int .i64 (clampZ Z*clampZ X)).wf=true:=WalkArith.wf_i64 ⟨by omega,by omega⟩
   go_wp2
   go_quiet (first|(go_at_call 114;refine Calls.quiet_of_same (clamp_call _ _))|(go_at_call 113;refine Calls.quiet_of_same (add_call _ _ ws wp _)))
   go_wp2
   go_roundw
   case rel=>exact⟨k+1,by omega,by go_num,by rw[Es.out],_,by rw[Hw.out,World.drewN_drewN]⟩
   case measure=>simp[intOf];omega
  ·have e:k=n:=by omega
   subst e
   subst hw
   have ws:=wf_sumZ zs xs k
   go_wp2_with (first|(go_at_call 115;refine (shift_call _ _ ws hb _).mono ?_;rintro e w' ⟨rfl,rfl⟩)|(go_at_call 114;refine (clamp_call _ _).mono ?_;rintro e w' ⟨rfl,rfl⟩))
   go_ret
   exact⟨rfl,_,rfl⟩
theorem inner_call (a0:Option Addr)(n0 c0:Nat)(zs:List Int)(a1:Option Addr)(n1 c1:Nat)(xs:List Int)(w:World)
  (h0:Reads .i64 w a0 n0 zs) (h1:Reads .i64 w a1 n1 xs) :
  Calls Tryz.prog 136 #[.slice a0 n0 c0,.slice a1 n1 c1] w fun e w'=>e=.returned (.tuple #[.int .i64 (if n0=n1 then atdotZ zs xs 16 else 0),.int .i64 (if n0=n1 then 0 else 21)])∧∃ m,w'=w.drewN m:=by
 by_cases e:n0=n1
 ·subst e
  simp only[if_true]
  go_enter Tryz.func136,Tryz.ntmps136
  go_wp2_with (go_at_call 150;refine (products64_call _ _ _ _ _ _ _ _ _ h0 h1 (by decide)).mono ?_;rintro e w' ⟨rfl,m,rfl⟩)
  go_ret2
  exact⟨rfl,_,rfl⟩
 ·simp only[if_neg e]
  have e':((n0:Int)==(n1:Int))=false:=by simp;omega
  go_enter Tryz.func136,Tryz.ntmps136
  go_wp2_with fail
  go_ret2
  exact⟨rfl,0,rfl⟩
end
section
theorem fits_yes (a0:Option Addr)(d c0:Nat)(a1:Option Addr)(n c1:Nat)(A:Nat→Option Addr)(C:Nat→Nat)(K:Nat→List Int)(a2:Option Addr)(c2:Nat)(A':Nat→Option Addr)(C':Nat→Nat)(V:Nat→List Int)(w:World)
  (h1:Grid w a1 n A C K) (h2:Grid w a2 n A' C' V) (hd:0<d) (hn:0<n) (hr:∀ r,r<n→(K r).length=d∧(V r).length=d) :
  Calls Tryz.prog 96 #[.slice a0 d c0,.slice a1 n c1,.slice a2 n c2] w fun e w'=>e=.returned (.bool true)∧w'=w:=by
 have hm:=h1.max
 have zd:((d:Int)==0)=false:=by simp;omega
 have zn:((n:Int)==0)=false:=by simp;omega
 obtain⟨x,rfl⟩:=h1.some_ hn
 obtain⟨y,rfl⟩:=h2.some_ hn
 have c1':=fun k (hk:k<n)=>(hr k hk).1 ▸ h1.cell x rfl k hk
 have c2':=fun k (hk:k<n)=>(hr k hk).2 ▸ h2.cell y rfl k hk
 clear h1 h2 hr
 go_enter Tryz.func96,Tryz.ntmps96
 go_wp2
 go_loopw [25] (fun i wr=>∃ k:Nat,k≤n∧i=.int .i64 k∧wr=w) (fun i _=>n-(intOf i).toNat)
 case atStart=>exact⟨0,Nat.zero_le _,rfl,rfl⟩
 case round =>
  obtain⟨k,hk,rfl,hw⟩:=hrel
  subst hw
  by_cases hlt:k<n
  ·have cx:=c1' k hlt
   have cy:=c2' k hlt
   clear c1' c2'
   go_wp2
   go_roundw
   case rel=>exact⟨k+1,by omega,by go_num,trivial⟩
   case measure=>simp[intOf];omega
  ·have e:k=n:=by omega
   subst e
   go_wp2
   go_ret
   exact⟨rfl,rfl⟩
end
section
def cutR (R:Nat→List Int)(f d:Nat)(r:Nat):List Int:=((R r).drop f).take d
def cutA (A:Nat→Option Addr)(f:Nat)(r:Nat):Option Addr:=(A r).map fun x=>x.add f
theorem cutR_length (R:Nat→List Int)(f d r:Nat)(h:f+d≤(R r).length):(cutR R f d r).length=d:=by
 unfold cutR
 rw[List.length_take,List.length_drop]
 omega
theorem part_call (x:Addr)(n c f d B:Nat)(w:World)(hd:0<d)(hn:f+d≤n)(hc:n≤c)(hm:n≤9223372036854775807)(hB:w.cell? ⟨B,0,none⟩=some (.int .i64 d)) :
  Calls Tryz.prog 97 #[.slice (some x) n c,.int .i64 f,.pointer (some ⟨B,0,none⟩)] w fun e w'=>e=.returned (.slice (some (x.add f)) d d)∧w'=w:=by
 obtain⟨Q,eQ⟩:∃ Q,f+d=Q:=⟨_,rfl⟩
 have eQ':(f:Int)+(d:Int)=(Q:Int):=by omega
 have eQ2:Q-f=d:=by omega
 have hQ:Q≤n:=by omega
 have hP:f<Q:=by omega
 clear eQ
 go_enter Tryz.func97,Tryz.ntmps97
 go_wp2
 go_ret
 exact⟨rfl,rfl⟩
theorem cut_grid {w:World}{a:Option Addr}{n:Nat}{A:Nat→Option Addr}{C:Nat→Nat}{R:Nat→List Int}(h:Grid w a n A C R){f d:Nat}(hd:0<d)(hr:∀ r,r<n→f+d≤(R r).length)
  {b:Option Addr} (hb:0<n→∃ x,b=some x) {D:Nat→Nat} (hc:∀ x,b=some x→∀ r,r<n→w.cell? (x.add r)=some (.slice (cutA A f r) d (D r))):Grid w b n (cutA A f) D (cutR R f d):=by
 refine⟨h.max,hb,fun x hx r hr'=>?_,fun r hr'=>?_⟩
 ·rw[cutR_length R f d r (hr r hr')]
  exact hc x hx r hr'
 ·have rr:=h.row r hr'
  have h1:=hr r hr'
  obtain⟨x,hx⟩:=rr.some_ (by omega)
  rw[cutR_length R f d r h1]
  unfold cutA cutR
  rw[hx] at rr ⊢
  exact rr.cut f d h1
theorem cutEach_call (a:Option Addr)(n c:Nat)(A:Nat→Option Addr)(C:Nat→Nat)(R:Nat→List Int)(f d B:Nat)(w:World)(h:Grid w a n A C R)(hC:∀ r,r<n→(R r).length≤C r)(hd:0<d)(hr:∀ r,r<n→f+d≤(R r).length)
  (hB:w.cell? ⟨B,0,none⟩=some (.int .i64 d)) (hb:n*24≤140737488355328) :
  Calls Tryz.prog 99 #[.slice a n c,.int .i64 f,.func (.func 97) #[] #[.pointer (some ⟨B,0,none⟩)]] w fun e w'=>(∃ x k,e=.returned (.slice (some x) n k)∧Grid w' (some x) n (cutA A f) (fun _=>d) (cutR R f d))∧Below w.heap.size w w':=by
 obtain⟨i0,hi,hz0,hz1,hz2⟩:=info_parts info34
 have hm:=h.max
 go_enter Tryz.func99,Tryz.ntmps99
 go_wp2_with (first
  | (at_make;refine wpList_make_full _ rfl (.tmp 11) (.tmp 11) 31 rfl w.heap.size 34 i0 (.slice none 0 0) 1 Tryz.underlying31 hi hz0 hz1 .i64 .i64 _ _ n rfl rfl rfl rfl (by rw[hz2];omega) (by unfold maxLen;omega) (Nat.le_refl _) ?_;intro w1 hown hgrow))
 have hbel:Below w.heap.size w w1:=(Below.refl _ _).grown hgrow (Nat.le_refl _) (fun k h=>by cases h)
 clear hgrow
 go_wp2
 go_loopw [15] (fun i wr=>∃ k:Nat,k≤n∧i=.int .i64 k∧Below w.heap.size w wr∧∃ cs,wr.ownsRow w.heap.size 34 1 (.slice (some ⟨w.heap.size,0,none⟩) n n) n cs∧∀ j,j<k→cs[j]? = some (.slice (cutA A f j) d d)) (fun i _=>n-(intOf i).toNat)
 case atStart=>exact⟨0,Nat.zero_le _,rfl,hbel,_,hown,fun j hj=>by omega⟩
 case round =>
  clear hown hbel
  obtain⟨k,hk,rfl,hbr,cs,ho,hcs⟩:=hrel
  by_cases hlt:k<n
  ·obtain⟨x,rfl⟩:=h.some_ (by omega)
   have rk:=h.row k hlt
   have cx:=(h.below hbr).cell x rfl k hlt
   have h1:=hr k hlt
   have h2:=hC k hlt
   have h3:=rk.max
   obtain⟨y,ey⟩:=rk.some_ (by omega)
   have eA:cutA A f k=some (y.add f):=by unfold cutA;rw[ey];rfl
   rw[ey] at cx
   have hB':wr.cell? ⟨B,0,none⟩=some (.int .i64 d):=(hbr.cell (World.block_lt_of_cell? w _ hB)).trans hB
   obtain⟨L,eL⟩:∃ L,(R k).length=L:=⟨_,rfl⟩
   rw[eL] at cx h1 h2 h3
   have kp:=part_call y L (C k) f d B wr hd h1 h2 h3 hB'
   have hlen:=own_length ho
   obtain⟨u,hu⟩:∃ u,cs[k]? = some u:=⟨cs[k],by simp[hlen,hlt]⟩
   have cell:wr.cell? ⟨w.heap.size,k,none⟩=some u:=(ho.cellAt k (by omega)).trans hu
   have froz:=ho.frozenAt k
   have Rr:Hid (Below w.heap.size w (wr.setCell ⟨w.heap.size,k,none⟩ (.slice (some (y.add f)) d d))∧∃ cs',(wr.setCell ⟨w.heap.size,k,none⟩ (.slice (some (y.add f)) d d)).ownsRow w.heap.size 34 1 (.slice (some ⟨w.heap.size,0,none⟩) n n) n cs'∧∀ j,j<k+1→cs'[j]? = some (.slice (cutA A f j) d d)) :=
    ⟨hbr.setCell (Nat.le_refl _) _,_,(ho.stored k _).1,set_step (F:=fun j=>Value.slice (cutA A f j) d d) hlen hlt (by rw[eA]) hcs⟩
   clear eL eA ey rk ho hcs hlen hbr hu h hr hC hB hi hz0 hz1 hz2
   go_wp2_with (go_at_call 97;refine kp.mono ?_;rintro e w' ⟨rfl,h⟩;obtain rfl:=h.symm)
   go_roundw
   case rel=>exact⟨k+1,by omega,by go_num,Rr.out⟩
   case measure=>simp[intOf];omega
  ·have e:k=n:=by omega
   subst e
   have fin:=cut_grid (h.below hbr) hd hr (b:=some ⟨w.heap.size,0,none⟩) (fun _=>⟨_,rfl⟩) (D:=fun _=>d) (fun x hx r hr'=>by
    obtain rfl:=Option.some.inj hx
    exact ho.cells (g:=w.heap.size) rfl r _ (hcs r hr'))
   clear hcs ho
   go_wp2
   go_ret
   exact⟨⟨_,_,rfl,fin⟩,hbr⟩
end
section
def plusZ (a b:List Int)(j:Nat):Int:=clampZ (clampZ (a.getD j 0)+clampZ (b.getD j 0))
theorem add4_same (a0:Option Addr)(n c0:Nat)(xs:List Int)(a1:Option Addr)(c1:Nat)(ys:List Int)(w:World)(h0:Reads .i64 w a0 n xs)(h1:Reads .i64 w a1 n ys)(hb:n*8≤281474976710656) :
  Calls Tryz.prog 93 #[.slice a0 n c0,.slice a1 n c1] w fun e w'=>(∃ a c,e=.returned (.tuple #[.slice a n c,.int .i64 0])∧Reads .i64 w' a n ((List.range n).map (plusZ xs ys))∧n≤c∧∀ x,a=some x→w.heap.size≤x.block)∧Below w.heap.size w w':=by
 obtain⟨i0,hi,hz0,hz1,hz2⟩:=info_parts info2
 have hm:=h0.max
 go_enter Tryz.func93,Tryz.ntmps93
 go_wp2_with (first|(at_make;refine wpList_make_full _ rfl (.tmp 14) (.tmp 14) 34 rfl w.heap.size 2 i0 (.int .i64 0) 1 Tryz.underlying34 hi hz0 hz1 .i64 .i64 _ _ n rfl rfl rfl rfl (by rw[hz2];omega) (by unfold maxLen;omega) (Nat.le_refl _) ?_;intro w1 hown hgrow))
 have hbel:Below w.heap.size w w1:=(Below.refl _ _).grown hgrow (Nat.le_refl _) (fun k h=>by cases h)
 go_wp2
 go_loopw [18] (fun i wr=>∃ k:Nat,k≤n∧i=.int .i64 k∧Below w.heap.size w wr∧∃ cs,wr.ownsRow w.heap.size 2 1 (.slice (some ⟨w.heap.size,0,none⟩) n n) n cs∧∀ j,j<k→cs[j]? = some (.int .i64 (plusZ xs ys j))) (fun i _=>n-(intOf i).toNat)
 case atStart=>exact⟨0,Nat.zero_le _,rfl,hbel,_,hown,fun j hj=>by omega⟩
 case round =>
  obtain⟨k,hk,rfl,hbr,cs,ho,hcs⟩:=hrel
  by_cases hlt:k<n
  ·have hr:=h0.below hbr
   have hq:=h1.below hbr
   obtain⟨x,rfl⟩:=h0.some_ (by omega)
   obtain⟨y,rfl⟩:=h1.some_ (by omega)
   have cx:=hr.cell x rfl k hlt
   have cy:=hq.cell y rfl k hlt
   have hlen:=own_length ho
   have cell:wr.cell? ⟨w.heap.size,k,none⟩=cs[k]?:=ho.cellAt k (by omega)
   obtain⟨u,hu⟩:∃ u,cs[k]? = some u:=⟨cs[k],by simp[hlen,hlt]⟩
   rw[hu] at cell
   have froz:=ho.frozenAt k
   have st:=fun v=>ho.stored k v
   have step:=fun v (h:v=Value.int .i64 (plusZ xs ys k))=>set_step (F:=fun j=>Value.int .i64 (plusZ xs ys j)) hlen hlt h hcs
   obtain⟨X,eX⟩:∃ X,xs.getD k 0=X:=⟨_,rfl⟩
   obtain⟨Y,eY⟩:∃ Y,ys.getD k 0=Y:=⟨_,rfl⟩
   have eP:plusZ xs ys k=clampZ (clampZ X+clampZ Y):=by unfold plusZ;rw[eX,eY]
   rw[eX] at cx
   rw[eY] at cy
   rw[eP] at step
   have R:Hid (Below w.heap.size w (wr.setCell ⟨w.heap.size,k,none⟩ (.int .i64 (clampZ (clampZ X+clampZ Y))))∧∃ cs',(wr.setCell ⟨w.heap.size,k,none⟩ (.int .i64 (clampZ (clampZ X+clampZ Y)))).ownsRow w.heap.size 2 1 (.slice (some ⟨w.heap.size,0,none⟩) n n) n cs'∧∀ j,j<k+1→cs'[j]? = some (.int .i64 (plusZ xs ys j))) :=
    ⟨hbr.setCell (Nat.le_refl _) _,_,(st _).1,step _ rfl⟩
   have bx:=clampZ_bounds X
   have by_:=clampZ_bounds Y
   clear eX eY eP step st hcs ho hu hlen hr hbr hq hown hgrow hbel h0 h1 hi hz0 hz1 hz2
   go_wp2
   go_region_with (go_at_call 114;refine (clamp_call _ _).mono ?_;rintro e w' ⟨rfl,rfl⟩)
   all_goals
    go_wp2
    go_roundw
    case rel=>exact⟨k+1,by omega,by go_num,R.out.1.drew,R.out.2⟩
    case measure=>simp[intOf];omega
  ·have e:k=n:=by omega
   subst e
   have fin:=own_reads_at (zs:=(List.range k).map (plusZ xs ys)) ho (by simp) (fun z hz=>by obtain⟨y,_,rfl⟩:=List.mem_map.1 hz;exact wf_clampZ _) (fun j hj=>by rw[hcs j hj];simp[hj])
   clear hcs ho
   go_wp2
   go_ret2
   exact⟨⟨_,_,rfl,fin,Nat.le_refl _,fun x hx=>Nat.le_of_eq (congrArg Addr.block (Option.some.inj hx))⟩,hbr⟩
end
section
structure GridB (w:World) (a:Option Addr) (n:Nat) (A:Nat→Option Addr) (C:Nat→Nat) (R:Nat→List Int):Prop where
 max:n≤9223372036854775807
 some_:0<n→∃ x,a=some x
 cell:∀ x,a=some x→∀ r,r<n→w.cell? (x.add r)=some (.slice (A r) (R r).length (C r))
 row:∀ r,r<n→Reads .i8 w (A r) (R r).length (R r)
theorem GridB.below {w w':World}{a:Option Addr}{n:Nat}{A:Nat→Option Addr}{C:Nat→Nat}{R:Nat→List Int}(h:GridB w a n A C R)(hb:Below w.heap.size w w'):GridB w' a n A C R :=
 ⟨h.max,h.some_,fun x hx r hr=>(hb.cell (World.block_lt_of_cell? w _ (h.cell x hx r hr))).trans (h.cell x hx r hr),fun r hr=>(h.row r hr).below hb⟩
structure Nets (w:World) (a:Option Addr) (n:Nat) (A:Nat→Option Addr) (C:Nat→Nat) (R:Nat→List Int):Prop where
 grid:GridB w a n A C R
 cap:∀ r,r<n→(R r).length≤C r
 nil_:∀ r,r<n→A r=none→C r=0
 bnd:∀ r,r<n→(R r).length*8≤140737488355328
theorem Nets.below {w w':World}{a:Option Addr}{n:Nat}{A:Nat→Option Addr}{C:Nat→Nat}{R:Nat→List Int}(h:Nets w a n A C R)(hb:Below w.heap.size w w'):Nets w' a n A C R :=
 ⟨h.grid.below hb,h.cap,h.nil_,h.bnd⟩
end
section
theorem upperSig_call (x:Int)(h0:0≤x)(h1:x≤2147483648)(w:World) :
  Calls Tryz.prog 159 #[.int .i64 x] w fun e w'=>e=.returned (.int .i64 (upZ x))∧Below w.heap.size w w':=by
 have eb:=expZ_bounds (-x)
 unfold upZ
 obtain⟨v,ev⟩:∃ v,expZ (-x)=v:=⟨_,rfl⟩
 rw[ev] at eb ⊢
 obtain⟨e0,e1⟩:=eb
 have wv:(Lit.int .i64 (65536+v)).wf=true:=wf_i64_of (by omega) (by omega)
 go_enter Tryz.func159,Tryz.ntmps159
 go_wp2_with (first|(go_at_call 134;refine (exp_call _ _).mono ?_;rintro e w' ⟨rfl,hg⟩)|(go_at_call 135;refine (div_call _ _ (by first|assumption|decide) (by first|assumption|decide) _).mono ?_;rintro e w' ⟨rfl,rfl⟩))
 all_goals go_ret
 all_goals exact⟨rfl,by assumption⟩
theorem sig_call (x:Int)(w:World) :
  Calls Tryz.prog 155 #[.int .i64 x] w fun e w'=>e=.returned (.int .i64 (sigZ x))∧Below w.heap.size w w':=by
 have cb:=clampZ_bounds x
 have b1:=upZ_bounds (-clampZ x)
 unfold sigZ
 obtain⟨c,ec⟩:∃ c,clampZ x=c:=⟨_,rfl⟩
 rw[ec] at cb b1 ⊢
 obtain⟨c0,c1⟩:=cb
 obtain⟨b0,b1⟩:=b1
 by_cases k:c<0
 ·rw[if_pos k]
  go_enter Tryz.func155,Tryz.ntmps155
  go_wp2_with (first|(go_at_call 114;refine (clamp_call _ _).mono ?_;rintro e w' ⟨rfl,rfl⟩)|(go_at_call 159;refine (upperSig_call _ (by omega) (by omega) _).mono ?_;rintro e w' ⟨rfl,hg⟩))
  all_goals go_ret
  all_goals exact⟨rfl,by assumption⟩
 ·rw[if_neg k]
  go_enter Tryz.func155,Tryz.ntmps155
  go_wp2_with (first|(go_at_call 114;refine (clamp_call _ _).mono ?_;rintro e w' ⟨rfl,rfl⟩)|(go_at_call 159;refine (upperSig_call _ (by omega) (by omega) _).mono ?_;rintro e w' ⟨rfl,hg⟩))
  all_goals go_ret
  all_goals exact⟨rfl,by assumption⟩
theorem silu_call (x:Int)(hx:(Lit.int .i64 x).wf=true)(w:World) :
  Calls Tryz.prog 152 #[.int .i64 x] w fun e w'=>e=.returned (.int .i64 (siluZ x))∧Below w.heap.size w w':=by
 have b:=sigZ_bounds x
 have wv:(Lit.int .i64 (sigZ x)).wf=true:=wf_i64_of (by omega) (by omega)
 unfold siluZ
 go_enter Tryz.func152,Tryz.ntmps152
 go_wp2_with (first|(go_at_call 155;refine (sig_call _ _).mono ?_;rintro e w' ⟨rfl,hg⟩)|(go_at_call 104;refine (mul_call _ _ (by first|assumption|decide) (by first|assumption|decide) _).mono ?_;rintro e w' ⟨rfl,rfl⟩))
 all_goals go_ret
 all_goals exact⟨rfl,by assumption⟩
end
end Go.Proofs.YthliomlmhfjhnaaGreat

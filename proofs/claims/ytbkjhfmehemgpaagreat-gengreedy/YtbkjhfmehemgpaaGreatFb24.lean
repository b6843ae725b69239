/- Texts put together. -/
import Derived.Test.YtbkjhfmehemgpaaGreatFb23
import Derived.Lib.MinMax
namespace Go.Proofs.YtbkjhfmehemgpaaGreat
set_option maxRecDepth 20000
set_option maxHeartbeats 16000000
open Go.ChangeShapes Go.WideShapes Go.ChangeAt Go.RowKit
set_option linter.unusedVariables false
set_option linter.unusedSimpArgs false
def maxTo (row:List Int):Nat→Int
 | 0=>row.getD 0 0
 | n+1=>max (maxTo row n) (row.getD (n+1) 0)
theorem clamp_max (x y:Int):cZ (max x y)=max (cZ x) (cZ y):=by unfold cZ;omega
theorem clamp_maxTo (row:List Int)(n:Nat):cZ (maxTo row n)=topTo row (n+1):=by
 induction n with
 | zero =>
  have:=cZb (row.getD 0 0)
  unfold maxTo topTo topTo
  omega
 | succ n ih =>
  unfold maxTo
  rw[clamp_max,ih]
  rfl
theorem bemax_call (a0:Option Addr)(n c0:Nat)(zs:List Int)(w:World)(h0:Reads .i64 w a0 (n+1) zs) :
  Calls Tryz.prog 187 #[.slice a0 (n+1) c0] w fun e w'=>e=.returned (.int .i64 (maxTo zs n))∧w'=w:=by
 have hm:=h0.max
 obtain⟨x,rfl⟩:=h0.some_ (by omega)
 have cx:=h0.cell x rfl 0 (by omega)
 rw[Addr.add_zero'] at cx
 have t1:¬((n:Int)+1<1):=by omega
 have E0:Hid (zs.getD 0 0=maxTo zs 0):=show zs.getD 0 0=maxTo zs 0 from rfl
 obtain⟨X0,eX⟩:∃ X,zs.getD 0 0=X:=⟨_,rfl⟩
 rw[eX] at cx E0
 clear eX
 go_enter Tryz.func187,Tryz.ntmps187
 go_wp2
 clear t1
 go_loopw [3,4] (fun m i wr=>∃ k:Nat,1≤k∧k≤n+1∧i=.int .i64 k∧m=.int .i64 (maxTo zs (k-1))∧wr=w) (fun _ i _=>n+1-(intOf i).toNat)
 case atStart=>exact⟨1,Nat.le_refl _,by omega,rfl,by rw[E0.out],rfl⟩
 case round =>
  obtain⟨k,hk1,hk,rfl,rfl,rfl⟩:=hrel
  clear cx E0
  by_cases hlt:k<n+1
  ·have cx:=h0.cell x rfl k hlt
   have t1:(k:Int)<(n:Int)+1:=by omega
   have E1:Hid (max (maxTo zs (k-1)) (zs.getD k 0)=maxTo zs (k+1-1)):=by
    show _=_
    obtain⟨l,rfl⟩:∃ l,k=l+1:=⟨k-1,by omega⟩
    simp only[Nat.add_sub_cancel]
    rfl
   obtain⟨X,eX⟩:∃ X,zs.getD k 0=X:=⟨_,rfl⟩
   obtain⟨M,eM⟩:∃ M,maxTo zs (k-1)=M:=⟨_,rfl⟩
   rw[eX] at cx E1
   rw[eM] at E1 ⊢
   clear eX eM
   go_wp2
   go_roundw
   case rel=>exact⟨k+1,by omega,by omega,by go_num,by rw[E1.out],by first|rfl|trivial⟩
   case measure=>simp[intOf];omega
  ·obtain rfl:k=n+1:=by omega
   have t1:¬((n:Int)+1<(n:Int)+1):=by omega
   rw[Nat.add_sub_cancel]
   go_wp2
   go_ret
   exact⟨rfl,rfl⟩
def lossL (row:List Int):List Int:=(List.range row.length).map fun (i:Nat)=>lossZ row i
theorem lossL_at (row:List Int){i:Nat}(h:i<row.length):(lossL row).getD i 0=lossZ row i:=by simp[lossL,List.getD,h]
theorem lossZ_bounds (row:List Int)(i:Nat):-2147483648≤lossZ row i∧lossZ row i≤2147483647:=cZb _
theorem lossL_wf (row:List Int):∀ z∈lossL row,(Lit.int .i64 z).wf=true:=by
 intro z hz
 obtain⟨i,-,rfl⟩:=List.mem_map.1 hz
 have:=lossZ_bounds row i
 exact WalkArith.wf_i64 ⟨by omega,by omega⟩
theorem losses_call (a0 : Option Addr) (n c0 : Nat) (zs : List Int) (w : World) (h0 : Reads .i64 w a0 (n + 1) zs) (hb : (n + 1) * 8 ≤ 281474976710656) :
    Calls Tryz.prog 151 #[.slice a0 (n + 1) c0] w fun e w' => (∃ a c, e = .returned (.slice a (n + 1) c) ∧ Reads .i64 w' a (n + 1) (lossL zs) ∧ ∀ x, a = some x → w.heap.size ≤ x.block) ∧ Below w.heap.size w w' := by
  obtain ⟨i0, hi, hz0, hz1, hz2⟩ := info_parts info2
  have hm := h0.max
  have hl := h0.len
  have kx := bemax_call a0 n c0 zs w h0
  have kc0 := fun W => cCa (maxTo zs n) W
  rw [clamp_maxTo, show topTo zs (n + 1) = topC zs by unfold topC; rw [hl]] at kc0
  have tb : -2147483648 ≤ topC zs ∧ topC zs ≤ 2147483647 := topTo_bounds zs _
  have EL : Hid (∀ k, lossZ zs k = cZ (cZ (zs.getD k 0) - topC zs)) := show ∀ k, lossZ zs k = _ from fun _ => rfl
  obtain ⟨T, eT⟩ : ∃ T, topC zs = T := ⟨_, rfl⟩
  obtain ⟨M, eM⟩ : ∃ M, maxTo zs n = M := ⟨_, rfl⟩
  rw [eT] at kc0 tb EL
  rw [eM] at kx kc0
  clear eT eM
  obtain ⟨N, eN⟩ : ∃ N, n + 1 = N := ⟨_, rfl⟩
  have zN : (n : Int) + 1 = (N : Int) := by omega
  rw [eN] at hm hl kx h0 hb ⊢
  have hN : 0 < N := by omega
  clear eN zN
  obtain ⟨tb0, tb1⟩ := tb
  go_enter Tryz.func151, Tryz.ntmps151
  go_wp2_with (first
    | (go_at_call 187; refine kx.mono ?_; rintro e w' ⟨rfl, h⟩; obtain rfl := h.symm)
    | (go_at_call 79; refine (kc0 _).mono ?_; rintro e w' ⟨rfl, h⟩; obtain rfl := h.symm)
    | (at_make; refine wpList_make_full _ rfl (.tmp 11) (.tmp 11) 70 rfl w.heap.size 2 i0 (.int .i64 0) 1 Tryz.underlying70 hi hz0 hz1 .i64 .i64 _ _ N rfl rfl rfl rfl (by rw [hz2]; omega) (by unfold maxLen; omega) (Nat.le_refl _) ?_; intro w1 hown hgrow))
  have hbel : Below w.heap.size w w1 := (Below.refl _ _).grown hgrow (Nat.le_refl _) (fun k h => by cases h)
  go_wp2
  go_loopw [15] (fun i wr => ∃ k : Nat, k ≤ N ∧ i = .int .i64 k ∧ Below w.heap.size w wr ∧ ∃ cs, wr.ownsRow w.heap.size 2 1 (.slice (some ⟨w.heap.size, 0, none⟩) N N) N cs ∧ ∀ j, j < k → cs[j]? = some (.int .i64 (lossZ zs j))) (fun i _ => N - (intOf i).toNat)
  case atStart => exact ⟨0, Nat.zero_le _, rfl, hbel, _, hown, fun j hj => by omega⟩
  case round =>
    obtain ⟨k, hk, rfl, hbr, cs, ho, hcs⟩ := hrel
    by_cases hlt : k < N
    · have hr := h0.below hbr
      obtain ⟨x, rfl⟩ := h0.some_ (by omega)
      have cx := hr.cell x rfl k hlt
      have hlen := oLe ho
      have cb := cZb (zs.getD k 0)
      have kc := fun W => cCa (zs.getD k 0) W
      have ke := fun W => cCa (cZ (zs.getD k 0) - T) W
      rw [← EL.out k] at ke
      obtain ⟨E, eE⟩ : ∃ E, lossZ zs k = E := ⟨_, rfl⟩
      obtain ⟨C, eC⟩ : ∃ C, cZ (zs.getD k 0) = C := ⟨_, rfl⟩
      rw [eE] at ke
      rw [eC] at cb kc ke
      obtain ⟨X, eX⟩ : ∃ X, zs.getD k 0 = X := ⟨_, rfl⟩
      rw [eX] at cx kc
      obtain ⟨u, hu⟩ : ∃ u, cs[k]? = some u := ⟨cs[k], by simp [hlen, hlt]⟩
      obtain ⟨q0, q1⟩ := cb
      have cell2 : wr.cell? ⟨w.heap.size, k, none⟩ = some u := (ho.cellAt k (by omega)).trans hu
      have froz2 := ho.frozenAt k
      have st2 := And.intro (ho.stored k (.int .i64 E)).1 (set_step (F := fun j => Value.int .i64 (lossZ zs j)) hlen hlt (show Value.int .i64 E = .int .i64 (lossZ zs k) by rw [eE]) hcs)
      have R : Hid (Below w.heap.size w (wr.setCell ⟨w.heap.size, k, none⟩ (.int .i64 E)) ∧ ∃ cs', (wr.setCell ⟨w.heap.size, k, none⟩ (.int .i64 E)).ownsRow w.heap.size 2 1 (.slice (some ⟨w.heap.size, 0, none⟩) N N) N cs' ∧ ∀ j, j < k + 1 → cs'[j]? = some (.int .i64 (lossZ zs j))) :=
             ⟨hbr.setCell (Nat.le_refl _) _, _, st2.1, st2.2⟩
      clear eE eC eX hr hown hgrow hbel hi hz0 hz1 hz2 kx kc0 st2
      go_wp2_with (first
        | (go_at_call 79; refine (kc _).mono ?_; rintro e w' ⟨rfl, h⟩; obtain rfl := h.symm; clear kc)
        | (go_at_call 79; refine (ke _).mono ?_; rintro e w' ⟨rfl, h⟩; obtain rfl := h.symm))
      go_roundw
      case rel => exact ⟨k + 1, by omega, by go_num, R.out⟩
      case measure => simp [intOf]; omega
    · have e : k = N := by omega
      subst e
      obtain ⟨a, c, ev, rd⟩ := oRe (k := .i64) (zs := lossL zs) ho (by simp [lossL, hl]) (lossL_wf zs) (fun j hj => by rw [hcs j hj, lossL_at zs (by omega)])
      simp only [Value.slice.injEq] at ev
      obtain ⟨e1, -, e2⟩ := ev
      rw [← e1] at rd
      go_wp2
      go_ret
      exact ⟨⟨_, _, rfl, rd, fun x hx => by obtain rfl := Option.some.inj hx; exact Nat.le_refl _⟩, hbr⟩
theorem empty_call (a0:Option Addr)(n c0:Nat)(w:World)(hn:n≤9223372036854775807):Calls Tryz.prog 149 #[.slice a0 n c0] w fun e w'=>e=.returned (.bool (decide (n=0)))∧w'=w:=by
 by_cases h:n=0
 ·subst h
  go_enter Tryz.func149,Tryz.ntmps149
  go_wp2
  go_ret
  exact⟨rfl,rfl⟩
 ·have h1:((n:Int)==0)=false:=by simp;omega
  rw[show decide (n=0)=false by simp[h]]
  go_enter Tryz.func149,Tryz.ntmps149
  go_wp2
  go_ret
  exact⟨rfl,rfl⟩
theorem index_call (a0 : Option Addr) (m c0 : Nat) (A : Nat → Option Addr) (C : Nat → Nat) (R : Nat → List Int) (w : World) (h0 : Grid w a0 m A C R) :
    Calls Tryz.prog 186 #[.slice a0 m c0, .func (.func 149) #[] #[]] w fun e w' => (∃ z : Int, e = .returned (.int .i64 z) ∧ (z < 0 ↔ ∀ r, r < m → 0 < (R r).length)) ∧ w' = w := by
  have hm := h0.max
  go_enter Tryz.func186, Tryz.ntmps186
  go_wp2
  go_loopw [8] (fun i wr => ∃ k : Nat, k ≤ m ∧ i = .int .i64 k ∧ wr = w ∧ ∀ r, r < k → 0 < (R r).length) (fun i _ => m - (intOf i).toNat)
  case atStart => exact ⟨0, Nat.zero_le _, rfl, rfl, fun r hr => by omega⟩
  case round =>
    obtain ⟨k, hk, rfl, rfl, hall⟩ := hrel
    have HA : Hid (∀ r, r < k → 0 < (R r).length) := hall
    clear hall
    by_cases hlt : k < m
    · obtain ⟨x, rfl⟩ := h0.some_ (by omega)
      have cx := h0.cell x rfl k hlt
      have rm := (h0.row k hlt).max
      have ke := fun W => empty_call (A k) (R k).length (C k) W rm
      by_cases he : (R k).length = 0
      · have HE : Hid ((R k).length = 0) := he
        rw [show decide ((R k).length = 0) = true by simp [he]] at ke
        clear he
        obtain ⟨l, el⟩ : ∃ l, (R k).length = l := ⟨_, rfl⟩
        rw [el] at cx ke rm
        clear el
        go_wp2_with (go_at_call 149; refine (ke _).mono ?_; rintro e w' ⟨rfl, h⟩; obtain rfl := h.symm)
        go_ret
        exact ⟨⟨_, rfl, by constructor <;> intro h; · omega
                           · have := h k hlt; have := HE.out; omega⟩, rfl⟩
      · have HE : Hid (0 < (R k).length) := by show 0 < (R k).length; omega
        rw [show decide ((R k).length = 0) = false by simp [he]] at ke
        clear he
        obtain ⟨l, el⟩ : ∃ l, (R k).length = l := ⟨_, rfl⟩
        rw [el] at cx ke rm
        clear el
        go_wp2_with (go_at_call 149; refine (ke _).mono ?_; rintro e w' ⟨rfl, h⟩; obtain rfl := h.symm)
        go_roundw
        case rel => exact ⟨k + 1, by omega, by go_num, by first | rfl | trivial, fun r hr => by
                      by_cases e : r = k
                      · subst e; exact HE.out
                      · exact HA.out r (by omega)⟩
        case measure => simp [intOf]; omega
    · obtain rfl : k = m := by omega
      go_wp2
      go_ret
      exact ⟨⟨_, rfl, by simp; exact HA.out⟩, rfl⟩
theorem contains_call (a0:Option Addr)(m c0:Nat)(A:Nat→Option Addr)(C:Nat→Nat)(R:Nat→List Int)(w:World)(h0:Grid w a0 m A C R) :
  Calls Tryz.prog 150 #[.slice a0 m c0,.func (.func 149) #[] #[]] w fun e w'=>e=.returned (.bool (!((List.range m).all fun r=>decide (0<(R r).length))))∧w'=w:=by
 have ki:=index_call a0 m c0 A C R w h0
 have hB:(∀ r,r<m→0<(R r).length)↔((List.range m).all fun r=>decide (0<(R r).length))=true:=by simp
 obtain⟨B,eB⟩:∃ B,((List.range m).all fun r=>decide (0<(R r).length))=B:=⟨_,rfl⟩
 rw[eB] at hB ⊢
 clear eB h0
 have ki':Calls Tryz.prog 186 #[.slice a0 m c0,.func (.func 149) #[] #[]] w fun e w'=>(∃ z:Int,e=.returned (.int .i64 z)∧(decide (0≤z) = !B))∧w'=w:=ki.mono fun e w' ⟨⟨z,h1,h2⟩,h3⟩=>⟨⟨z,h1,by
  cases B with
  | true=>have:=h2.2 (hB.2 rfl);simp;omega
  | false =>
   have:¬z<0:=fun h=>by have:=hB.1 (h2.1 h);cases this
   simp;omega⟩,h3⟩
 clear ki hB
 go_enter Tryz.func150,Tryz.ntmps150
 go_wp2_with (go_at_call 186;refine ki'.mono ?_;rintro e w' ⟨⟨z,rfl,hz⟩,h⟩;obtain rfl:=h.symm)
 go_ret
 refine⟨?_,rfl⟩
 first|trivial|rfl|(rw[←hz];rfl)
theorem befits_call (a0:Option Addr)(n c0:Nat)(A:Nat→Option Addr)(C:Nat→Nat)(L:Nat→Bm)(a1:Option Addr)(m c1:Nat)(A1:Nat→Option Addr)(C1:Nat→Nat)(R:Nat→List Int)(w:World)
  (h0:BmAt w a0 n A C L) (h1:Grid w a1 m A1 C1 R) :
  Calls Tryz.prog 113 #[.slice a0 n c0,.slice a1 m c1] w fun e w'=>e=.returned (.bool (befitB L n R m))∧Below w.heap.size w w':=by
 have hm:=h0.max
 have hm1:=h1.max
 obtain⟨X,eX⟩:∃ X,befitB L n R m=X:=⟨_,rfl⟩
 rw[eX]
 have EX:Hid (befitB L n R m=X):=eX
 clear eX
 go_enter Tryz.func113,Tryz.ntmps113
 go_wp2
 go_loopw [5,11] (fun s i wr=>∃ k:Nat,k≤n∧i=.int .i64 k∧s=.int .i64 (liveTo L k:Nat)∧Below w.heap.size w wr) (fun _ i _=>n-(intOf i).toNat)
 case atStart=>exact⟨0,Nat.zero_le _,rfl,rfl,Below.refl _ _⟩
 case round =>
  obtain⟨k,hk,rfl,rfl,hbr⟩:=hrel
  by_cases hlt:k<n
  ·have hr:=h0.below hbr
   obtain⟨x,rfl⟩:=h0.some_ (by omega)
   obtain⟨y,ey,d0,d1,d2⟩:=hr.at3 hlt
   have ll:=liveTo_le L k
   have bb:=bNw hbr (.cells #[.slice (A k) (L k).t.length (C k),.int .i64 (L k).s,.bool (L k).f] 135)
   cases hf:(L k).f with
   | true =>
    have EN:Hid (liveTo L (k+1)=liveTo L k):=by show liveTo L k+_=_;rw[hf];rfl
    rw[hf] at d2 bb
    obtain⟨V,eV⟩:∃ V,liveTo L k=V:=⟨_,rfl⟩
    rw[eV] at EN ll ⊢
    clear eV hf hr
    go_wp2
    go_roundw
    case rel=>exact⟨k+1,by omega,by go_num,by rw[EN.out],bb⟩
    case measure=>simp[intOf];omega
   | false =>
    have EN:Hid (liveTo L (k+1)=liveTo L k+1):=by show liveTo L k+_=_;rw[hf];rfl
    rw[hf] at d2 bb
    obtain⟨V,eV⟩:∃ V,liveTo L k=V:=⟨_,rfl⟩
    rw[eV] at EN ll ⊢
    clear eV hf hr
    go_wp2
    go_roundw
    case rel=>exact⟨k+1,by omega,by go_num,by rw[EN.out];go_num,bb⟩
    case measure=>simp[intOf];omega
  ·obtain rfl:k=n:=by omega
   have kc:=fun W hb=>contains_call a1 m c1 A1 C1 R W (h1.below hb)
   have EF:Hid (∀ B,((List.range m).all fun r=>decide (0<(R r).length))=B→befitB L k R m=(decide (0<k) && decide (m=liveTo L k) && B)):=by
    show ∀ B,_→_
    intro B hB
    unfold befitB
    rw[hB]
   have ll:=liveTo_le L k
   obtain⟨V,eV⟩:∃ V,liveTo L k=V:=⟨_,rfl⟩
   obtain⟨B,eB⟩:∃ B,((List.range m).all fun r=>decide (0<(R r).length))=B:=⟨_,rfl⟩
   have EF2:=EF.out B eB
   rw[eV] at EF2 ll ⊢
   rw[eB] at kc
   clear EF eV eB
   rw[EX.out] at EF2
   clear EX
   by_cases h2:k=0
   ·have t1:decide ((k:Int) > 0)=false:=decide_eq_false (by omega)
    have t1':¬(0<(k:Int)):=by omega
    obtain rfl:X=false:=by rw[EF2];simp[h2]
    clear EF2 h2
    go_wp2
    go_ret
    exact⟨rfl,hbr⟩
   ·have t1':(0<(k:Int)):=by omega
    by_cases h3:m=V
    ·subst h3
     obtain rfl:X=B:=by rw[EF2];simp;omega
     clear EF2 h2
     go_wp2_with (go_at_call 150;refine (kc _ hbr).mono ?_;rintro e w' ⟨rfl,h⟩;obtain rfl:=h.symm)
     go_ret
     exact⟨by simp,hbr⟩
    ·have t2:((m:Int)==(V:Int))=false:=by simp;omega
     have t3:¬(m:Int)=(V:Int):=by omega
     obtain rfl:X=false:=by rw[EF2];simp[h3]
     clear EF2 h2 h3
     go_wp2
     go_ret
     exact⟨rfl,hbr⟩
theorem beisNaN_call (x:Int)(w:World):Calls Tryz.prog 153 #[.int .i64 x] w fun e w'=>e=.returned (.bool false)∧w'=w:=by
 go_enter Tryz.func153,Tryz.ntmps153
 go_wp2
 go_ret
 exact⟨by simp,rfl⟩
def cmpZ (x y:Int):Int:=if x<y then -1 else if y<x then 1 else 0
theorem compare_call (x y:Int)(w:World):Calls Tryz.prog 117 #[.int .i64 x,.int .i64 y] w fun e w'=>e=.returned (.int .i64 (cmpZ x y))∧w'=w:=by
 have kn:=fun z W=>beisNaN_call z W
 unfold cmpZ
 by_cases h1:x<y
 ·rw[if_pos h1]
  go_enter Tryz.func117,Tryz.ntmps117
  go_wp2_with (go_at_call 153;refine (kn _ _).mono ?_;rintro e w' ⟨rfl,h⟩;obtain rfl:=h.symm)
  go_ret
  exact⟨rfl,rfl⟩
 ·rw[if_neg h1]
  by_cases h2:y<x
  ·rw[if_pos h2]
   go_enter Tryz.func117,Tryz.ntmps117
   go_wp2_with (go_at_call 153;refine (kn _ _).mono ?_;rintro e w' ⟨rfl,h⟩;obtain rfl:=h.symm)
   go_ret
   exact⟨rfl,rfl⟩
  ·rw[if_neg h2]
   go_enter Tryz.func117,Tryz.ntmps117
   go_wp2_with (go_at_call 153;refine (kn _ _).mono ?_;rintro e w' ⟨rfl,h⟩;obtain rfl:=h.symm)
   go_ret
   exact⟨rfl,rfl⟩
theorem beclosure_call (u0 v0:Value)(x y:Int)(u2 v2:Value)(u3 u4 v3 v4:Value)(o1:u0.oneCell'=true)(o2:v0.oneCell'=true)(w:World) :
  Calls Tryz.prog 116 #[.agg #[u0,.int .i64 x,u2,u3,u4],.agg #[v0,.int .i64 y,v2,v3,v4]] w fun e w'=>e=.returned (.int .i64 (cmpZ y x))∧∃ o o',w'=(w.alloc o).alloc o':=by
 have kc:=fun W=>compare_call y x W
 go_enter Tryz.func116,Tryz.ntmps116
 go_wp2_with (go_at_call 117;refine (kc _).mono ?_;rintro e w' ⟨rfl,h⟩;obtain rfl:=h.symm)
 go_ret
 exact⟨rfl,_,_,rfl⟩
theorem open_call (a:Option Addr)(n c:Nat)(s:Int)(f:Bool)(w:World):Calls Tryz.prog 81 #[.agg #[.slice a n c,.int .i64 s,.bool f]] w fun e w'=>e=.returned (.bool (!f))∧Below w.heap.size w w':=by
 have hb:=bNw (Below.refl w.heap.size w) (.cells #[.slice a n c,.int .i64 s,.bool f] 135)
 go_enter Tryz.func81,Tryz.ntmps81
 go_wp2
 go_ret
 exact⟨rfl,hb⟩
def anyOpen (L:Nat→Bm)(n:Nat):Bool:=(List.range n).any fun r=>!(L r).f
theorem openIdx_call (a0 : Option Addr) (n c0 : Nat) (A : Nat → Option Addr) (C : Nat → Nat) (L : Nat → Bm) (w : World) (h0 : BmAt w a0 n A C L) :
    Calls Tryz.prog 112 #[.slice a0 n c0, .func (.func 81) #[] #[]] w fun e w' => (∃ z : Int, e = .returned (.int .i64 z) ∧ (decide (0 ≤ z) = anyOpen L n)) ∧ Below w.heap.size w w' := by
  have hm := h0.max
  go_enter Tryz.func112, Tryz.ntmps112
  go_wp2
  go_loopw [8] (fun i wr => ∃ k : Nat, k ≤ n ∧ i = .int .i64 k ∧ Below w.heap.size w wr ∧ ∀ r, r < k → (L r).f = true) (fun i _ => n - (intOf i).toNat)
  case atStart => exact ⟨0, Nat.zero_le _, rfl, Below.refl _ _, fun r hr => by omega⟩
  case round =>
    obtain ⟨k, hk, rfl, hbr, hall⟩ := hrel
    have HA : Hid (∀ r, r < k → (L r).f = true) := hall
    clear hall
    by_cases hlt : k < n
    · have hr := h0.below hbr
      obtain ⟨x, rfl⟩ := h0.some_ (by omega)
      obtain ⟨y, ey, d0, d1, d2⟩ := hr.at3 hlt
      have ko := fun W => open_call (A k) (L k).t.length (C k) (L k).s (L k).f W
      cases hf : (L k).f with
      | false =>
        have HF := hdn hf
        rw [hf] at d2 ko
        clear hf hr
        go_wp2_with (go_at_call 81; refine (ko _).mono ?_; rintro e w' ⟨rfl, h⟩; replace hbr := bTn hbr h; clear h)
        go_ret
        refine ⟨⟨_, rfl, ?_⟩, hbr⟩
        rw [show anyOpen L n = true from List.any_eq_true.2 ⟨k, List.mem_range.2 hlt, by rw [HF.out]; rfl⟩]
        exact decide_eq_true (by omega)
      | true =>
        have HF := hdn hf
        rw [hf] at d2 ko
        clear hf hr
        go_wp2_with (go_at_call 81; refine (ko _).mono ?_; rintro e w' ⟨rfl, h⟩; replace hbr := bTn hbr h; clear h)
        go_roundw
        case rel => exact ⟨k + 1, by omega, by go_num, hbr, fun r hr => by
                      by_cases e : r = k
                      · subst e; exact HF.out
                      · exact HA.out r (by omega)⟩
        case measure => simp [intOf]; omega
    · obtain rfl : k = n := by omega
      go_wp2
      go_ret
      refine ⟨⟨_, rfl, ?_⟩, hbr⟩
      rw [show anyOpen L k = false from List.any_eq_false.2 fun r hr => by rw [HA.out r (List.mem_range.1 hr)]; decide]
      rfl
theorem openAny_call (a0:Option Addr)(n c0:Nat)(A:Nat→Option Addr)(C:Nat→Nat)(L:Nat→Bm)(w:World)(h0:BmAt w a0 n A C L) :
  Calls Tryz.prog 80 #[.slice a0 n c0,.func (.func 81) #[] #[]] w fun e w'=>e=.returned (.bool (anyOpen L n))∧Below w.heap.size w w':=by
 have ki:=openIdx_call a0 n c0 A C L w h0
 obtain⟨B,eB⟩:∃ B,anyOpen L n=B:=⟨_,rfl⟩
 rw[eB] at ki ⊢
 clear eB h0
 go_enter Tryz.func80,Tryz.ntmps80
 go_wp2_with (go_at_call 112;refine ki.mono ?_;rintro e w' ⟨⟨z,rfl,hz⟩,h⟩)
 go_ret
 refine⟨?_,h⟩
 first|(rw[←hz];rfl)|(rw[←hz])
end Go.Proofs.YtbkjhfmehemgpaaGreat

/- Texts put together. -/
import Derived.Test.YtbkjhfmehemgpaaGreatFb2
import Derived.Test.YtbkjhfmehemgpaaGreatFb19
import Derived.Test.YtbkjhfmehemgpaaGreatFb13
namespace Go.Proofs.YtbkjhfmehemgpaaGreat
set_option maxRecDepth 20000
set_option maxHeartbeats 16000000
open Go.ChangeShapes Go.WideShapes Go.ChangeAt Go.RowKit
set_option linter.unusedVariables false
set_option linter.unusedSimpArgs false
abbrev fitP (n d:Nat)(r:Int):Prop:=0<d∧n%d=0∧((n/d:Nat):Int)=r
def lowL (za xs:List Int):List Int:=(List.range (za.length/xs.length)).map (rowZ za xs.length xs)
abbrev applOK (za zb:List Int)(rank:Int)(xs:List Int):Prop:=fitP za.length xs.length rank∧fitP zb.length (za.length/xs.length) xs.length
def applE (za zb:List Int)(rank:Int)(xs:List Int):Int:=if applOK za zb rank xs then 0 else 21
def applN (za zb xs:List Int)(shift:Int)(i:Nat):Int:=shiftZ (rowZ zb (za.length/xs.length) (lowL za xs) i) shift
def applR (za zb:List Int)(rank shift:Int)(xs:List Int):List Int:=if applOK za zb rank xs then (List.range xs.length).map (applN za zb xs shift) else []
theorem apply_no1 (a0:Option Addr)(na ca:Nat)(a1:Option Addr)(nb cb:Nat)(rank shift:Int)(a2:Option Addr)(d c2:Nat)(w:World)
  (k47:∀ W,Calls Tryz.prog 157 #[.slice a0 na ca,.int .i64 rank,.slice a2 d c2] W fun e w'=>e=.returned (.tuple #[.slice none 0 0,.int .i64 21])∧w'=W) :
  Calls Tryz.prog 175 #[.slice a0 na ca,.slice a1 nb cb,.int .i64 rank,.int .i64 shift,.slice a2 d c2] w fun e w'=>e=.returned (.tuple #[.slice none 0 0,.int .i64 21])∧Below w.heap.size w w':=by
 go_enter Tryz.func175,Tryz.ntmps175
 go_wp2_with (go_at_call 157;refine (k47 _).mono ?_;rintro e w' ⟨rfl,h⟩;obtain rfl:=h.symm)
 go_ret2
 exact⟨rfl,Below.refl _ _⟩
theorem apply_no2 (a0:Option Addr)(na ca:Nat)(a1:Option Addr)(nb cb:Nat)(rank shift:Int)(a2:Option Addr)(d c2 R:Nat)(w:World)(hd:d≤9223372036854775807)
  (k47:∀ W,Below w.heap.size w W→Calls Tryz.prog 157 #[.slice a0 na ca,.int .i64 rank,.slice a2 d c2] W fun e w'=>(∃ a c,e=.returned (.tuple #[.slice a R c,.int .i64 0]))∧Below W.heap.size W w')
  (k47':∀ W a c,Calls Tryz.prog 157 #[.slice a1 nb cb,.int .i64 d,.slice a R c] W fun e w'=>e=.returned (.tuple #[.slice none 0 0,.int .i64 21])∧w'=W) :
  Calls Tryz.prog 175 #[.slice a0 na ca,.slice a1 nb cb,.int .i64 rank,.int .i64 shift,.slice a2 d c2] w fun e w'=>e=.returned (.tuple #[.slice none 0 0,.int .i64 21])∧Below w.heap.size w w':=by
 have hb:=Below.refl w.heap.size w
 go_enter Tryz.func175,Tryz.ntmps175
 go_wp2_with (first
  | (go_at_call_of 157 rank;refine (k47 _ hb).mono ?_;rintro e w1 ⟨⟨a,c,rfl⟩,h⟩;replace hb:=bTn hb h;clear h k47)
  | (go_at_call 157;refine (k47' _ a c).mono ?_;rintro e w' ⟨rfl,h⟩;obtain rfl:=h.symm))
 go_ret2
 exact⟨rfl,hb⟩
theorem apply_yes (a0:Option Addr)(na ca:Nat)(a1:Option Addr)(nb cb:Nat)(rank shift:Int)(a2:Option Addr)(d c2 R:Nat)(w:World)(ls:List Int)(rs:Nat→Int)(hd:d≤9223372036854775807)(hs:(Lit.int .i64 shift).wf=true)(hrs:∀ i,(Lit.int .i64 (rs i)).wf=true)
  (k47:∀ W,Below w.heap.size w W→Calls Tryz.prog 157 #[.slice a0 na ca,.int .i64 rank,.slice a2 d c2] W fun e w'=>(∃ a c,e=.returned (.tuple #[.slice a R c,.int .i64 0])∧Reads .i64 w' a R ls)∧Below W.heap.size W w')
  (k47':∀ W a c,Below w.heap.size w W→Reads .i64 W a R ls→Calls Tryz.prog 157 #[.slice a1 nb cb,.int .i64 d,.slice a R c] W fun e w'=>(∃ cs,e=.returned (.tuple #[.slice (some ⟨W.heap.size,0,none⟩) d d,.int .i64 0])∧w'.ownsRow W.heap.size 2 1 (.slice (some ⟨W.heap.size,0,none⟩) d d) d cs∧∀ j,j<d→cs[j]? = some (.int .i64 (rs j)))∧Below W.heap.size W w') :
  Calls Tryz.prog 175 #[.slice a0 na ca,.slice a1 nb cb,.int .i64 rank,.int .i64 shift,.slice a2 d c2] w fun e w'=>∃ a c,e=.returned (.tuple #[.slice a d c,.int .i64 0])∧Reads .i64 w' a d ((List.range d).map fun i=>shiftZ (rs i) shift)∧Below w.heap.size w w':=by
 have hb:=Below.refl w.heap.size w
 go_enter Tryz.func175,Tryz.ntmps175
 go_wp2_with (first
  | (go_at_call_of 157 rank;refine (k47 _ hb).mono ?_;rintro e w1 ⟨⟨a,c,rfl,r1⟩,h⟩;replace hb:=bTn hb h;clear h k47)
  | (go_at_call 157;refine (k47' _ a c hb r1).mono ?_;rintro e w2 ⟨⟨cs,rfl,ho,hcs⟩,h⟩))
 have hs1:=hb.size
 have HB:=hdn hb
 clear hb k47' r1
 have HH:=hdn h
 clear h
 have HO:=hdn (And.intro ho hcs)
 clear ho hcs
 go_loopw [15,16,40] (fun _ _ i wr=>∃ k:Nat,k≤d∧i=.int .i64 k∧Below w1.heap.size w1 wr∧∃ cs,wr.ownsRow w1.heap.size 2 1 (.slice (some ⟨w1.heap.size,0,none⟩) d d) d cs∧∀ j,j<d→cs[j]? = some (.int .i64 (if j<k then shiftZ (rs j) shift else rs j))) (fun _ _ i _=>d-(intOf i).toNat)
 case atStart=>exact⟨0,Nat.zero_le _,rfl,HH.out,_,HO.out.1,fun j hj=>by rw[if_neg (by omega)];exact HO.out.2 j hj⟩
 case round =>
  obtain⟨k,hk,rfl,hbr,cs,ho,hcs⟩:=hrel
  by_cases hlt:k<d
  ·have hlen:=oLe ho
   have cell:wr.cell? ⟨w1.heap.size,k,none⟩=cs[k]?:=ho.cellAt k (by omega)
   rw[hcs k hlt,if_neg (by omega)] at cell
   have froz:=ho.frozenAt k
   have st:=fun v=>ho.stored k v
   have wk:=hrs k
   obtain⟨V,eV⟩:∃ V,rs k=V:=⟨_,rfl⟩
   rw[eV] at cell wk
   have kp:=shift_call V shift wk hs
   have R':Hid (Below w1.heap.size w1 (wr.setCell ⟨w1.heap.size,k,none⟩ (.int .i64 (shiftZ V shift)))∧∃ cs',(wr.setCell ⟨w1.heap.size,k,none⟩ (.int .i64 (shiftZ V shift))).ownsRow w1.heap.size 2 1 (.slice (some ⟨w1.heap.size,0,none⟩) d d) d cs'∧∀ j,j<d→cs'[j]? = some (.int .i64 (if j<k+1 then shiftZ (rs j) shift else rs j))):=by
    refine⟨hbr.setCell (Nat.le_refl _) _,_,(st _).1,fun j hj=>?_⟩
    by_cases e:j=k
    ·subst e
     rw[if_pos (by omega),eV]
     simp[hlen,hj]
    ·rw[List.getElem?_set_ne (by omega),hcs j hj]
     by_cases e2:j<k
     ·rw[if_pos e2,if_pos (by omega)]
     ·rw[if_neg e2,if_neg (by omega)]
   obtain⟨SV,eSV⟩:∃ SV,shiftZ V shift=SV:=⟨_,rfl⟩
   rw[eSV] at R'
   simp only[eSV] at kp
   clear st hcs ho hlen hbr eSV eV
   go_wp2_with (go_at_call 201;refine (kp _).mono ?_;rintro e w' ⟨rfl,h⟩;obtain rfl:=h.symm)
   go_roundw
   case rel=>exact⟨k+1,by omega,by go_num,R'.out⟩
   case measure=>simp[intOf];omega
  ·have e:k=d:=by omega
   subst e
   have fin:=oRa (zs:=(List.range k).map fun i=>shiftZ (rs i) shift) ho (by simp) (fun z hz=>by obtain⟨y,_,rfl⟩:=List.mem_map.1 hz;exact wf_shiftZ _ _ (hrs y)) (fun j hj=>by rw[hcs j hj,if_pos hj];simp[hj])
   clear hcs ho
   go_wp2
   go_ret2
   exact⟨_,_,rfl,fin,bTn HB.out hbr⟩
theorem apply_call (a0:Option Addr)(na ca:Nat)(za:List Int)(a1:Option Addr)(nb cb:Nat)(zb:List Int)(rank shift:Int)(a2:Option Addr)(d c2:Nat)(xs:List Int)(w:World)
  (h0:Reads .i8 w a0 na za) (hc0:na≤ca) (h1:Reads .i8 w a1 nb zb) (hc1:nb≤cb) (h2:Reads .i64 w a2 d xs) (hr:(Lit.int .i64 rank).wf=true) (hs:(Lit.int .i64 shift).wf=true) (hb:na*8≤140737488355328) (hb2:nb*8≤140737488355328) :
  Calls Tryz.prog 175 #[.slice a0 na ca,.slice a1 nb cb,.int .i64 rank,.int .i64 shift,.slice a2 d c2] w fun e w'=>∃ a m c,e=.returned (.tuple #[.slice a m c,.int .i64 (applE za zb rank xs)])∧Reads .i64 w' a m (applR za zb rank shift xs)∧Below w.heap.size w w':=by
 obtain rfl:=h0.len
 obtain rfl:=h1.len
 obtain rfl:=h2.len
 unfold applE applR
 have hm:=h0.max
 have hm1:=h1.max
 have hm2:=h2.max
 by_cases f1:fitP za.length xs.length rank
 ·obtain⟨g1,g2,g3⟩:=f1
  have e:za.length=za.length/xs.length*xs.length:=by have:=Nat.div_add_mod za.length xs.length;rw[g2,Nat.mul_comm] at this;omega
  have hle:=Nat.div_le_self za.length xs.length
  have kA:=fun W (hW:Below w.heap.size w W)=>mat_fits a0 za.length ca za (za.length/xs.length) a2 xs.length c2 xs W (h0.below hW) hc0 (h2.below hW) g1 e (by omega)
  rw[g3] at kA
  by_cases f2:fitP zb.length (za.length/xs.length) xs.length
  ·have ok:applOK za zb rank xs:=⟨⟨g1,g2,g3⟩,f2⟩
   rw[if_pos ok,if_pos ok]
   obtain⟨g4,g5,g6⟩:=f2
   have e':zb.length=xs.length*(za.length/xs.length):=by have:=Nat.div_add_mod zb.length (za.length/xs.length);rw[g5,Nat.mul_comm,show zb.length/(za.length/xs.length)=xs.length by omega] at this;omega
   have hle':=Nat.div_le_self zb.length (za.length/xs.length)
   refine (apply_yes a0 za.length ca a1 zb.length cb rank shift a2 xs.length c2 (za.length/xs.length) w (lowL za xs) (rowZ zb (za.length/xs.length) (lowL za xs)) hm2 hs (fun i=>wCz _) (fun W hW=>(kA W hW).mono fun e w' ⟨⟨a,c,cs,he,hre,_⟩,hb⟩=>⟨⟨a,c,he,hre⟩,hb⟩) (fun W a c hW hre=>?_)).mono fun e w' ⟨a,c,he,hre,hb⟩=>⟨a,_,c,he,hre,hb⟩
   refine (mat_fits a1 zb.length cb zb xs.length a (za.length/xs.length) c (lowL za xs) W (h1.below hW) hc1 hre g4 e' (by omega)).mono ?_
   rintro e w' ⟨⟨a,c,cs,he,hre,rfl,rfl,ho,hcs⟩,hb⟩
   exact⟨⟨cs,he,ho,hcs⟩,hb⟩
  ·have no:¬applOK za zb rank xs:=fun k=>f2 k.2
   rw[if_neg no,if_neg no]
   refine (apply_no2 a0 za.length ca a1 zb.length cb rank shift a2 xs.length c2 (za.length/xs.length) w hm2 (fun W hW=>(kA W hW).mono fun e w' ⟨⟨a,c,cs,he,_⟩,hb⟩=>⟨⟨a,c,he⟩,hb⟩) (fun W a c=>mat_not a1 zb.length cb xs.length a (za.length/xs.length) c W hm1 (by omega) (WalkArith.wf_i64 ⟨by omega,by omega⟩) f2)).mono fun e w' ⟨he,hb⟩=>⟨none,0,0,he,Reads.nil _ _,hb⟩
 ·have no:¬applOK za zb rank xs:=fun k=>f1 k.1
  rw[if_neg no,if_neg no]
  exact (apply_no1 a0 za.length ca a1 zb.length cb rank shift a2 xs.length c2 w (fun W=>mat_not a0 za.length ca rank a2 xs.length c2 W hm hm2 hr f1)).mono fun e w' ⟨he,hb⟩=>⟨none,0,0,he,Reads.nil _ _,hb⟩
theorem wf_siluZ (y:Int):(Lit.int .i64 (siluZ y)).wf=true:=wCz _
theorem one_yes (a0 : Option Addr) (n0 c0 : Nat) (up : List Int) (a1 : Option Addr) (n1 c1 : Nat) (down : List Int) (h : Int) (a3 : Option Addr) (n3 c3 : Nat) (xs : List Int) (w : World) (h0 : Reads .i8 w a0 n0 up) (l0 : n0 ≤ c0) (h1 : Reads .i8 w a1 n1 down) (l1 : n1 ≤ c1) (h3 : Reads .i64 w a3 n3 xs) (wh : (Lit.int .i64 h).wf = true) (b0 : n0 * 8 ≤ 140737488355328) (b1 : n1 * 8 ≤ 140737488355328) (hf : oneB up down h xs = true) :
    Calls Tryz.prog 227 #[.slice a0 n0 c0, .slice a1 n1 c1, .int .i64 h, .slice a3 n3 c3] w fun e w' => (∃ a, e = .returned (.slice (some a) n3 n3) ∧ Reads .i64 w' (some a) n3 (oneL up down xs) ∧ w.heap.size ≤ a.block ∧ a.block < w'.heap.size) ∧ Below w.heap.size w w' := by
  obtain ⟨f1, f2⟩ := Bool.and_eq_true _ _ ▸ (show (fitB up.length h xs.length && fitB down.length (xs.length : Int) (hidL up xs).length) = true from hf)
  have el := oneL_length hf
  rw [h3.len] at el
  rw [h0.len, h3.len] at f1
  clear hf
  have ku := mat_yes a0 n0 c0 up h a3 n3 c3 xs w h0 l0 h3 f1 b0
  have hle := Nat.div_le_self n0 n3
  have hm3 := h3.max
  have hm1 := h1.max
  obtain ⟨R, eR⟩ : ∃ R, n0 / n3 = R := ⟨_, rfl⟩
  have eh : (hidL up xs).length = R := by rw [hidL_length, h0.len, h3.len, eR]
  rw [eR] at ku hle
  rw [h1.len, h3.len, eh] at f2
  have ha : ∀ j, j < R → (hidL up xs).getD j 0 = siluZ (rowZ up n3 xs j) := fun j hj => by
    rw [hidL_at _ _ _ (by rw [h0.len, h3.len, eR]; exact hj), h3.len]
  have Eh := hdn (And.intro eh ha)
  clear eR f1 eh ha
  have hRm : R ≤ 9223372036854775807 := by omega
  go_enter Tryz.func227, Tryz.ntmps227
  go_wp2_with (first
    | (go_at_call 157; refine ku.mono ?_; rintro e w1 ⟨⟨cs0, rfl, hr1, ho1, hc1⟩, hb1⟩)
    | (go_at_call 239; refine (must_yes _ _ _ _).mono ?_; rintro e w' ⟨rfl, hq⟩; obtain rfl := hq.symm))
  clear ku hr1
  go_loopw [21] (fun i wr => ∃ k : Nat, k ≤ R ∧ i = .int .i64 k ∧ Below w.heap.size w wr ∧ ∃ cs, wr.ownsRow w.heap.size 2 1 (.slice (some ⟨w.heap.size, 0, none⟩) R R) R cs ∧ (∀ j, j < k → cs[j]? = some (.int .i64 (siluZ (rowZ up n3 xs j)))) ∧ ∀ j, k ≤ j → j < R → cs[j]? = some (.int .i64 (rowZ up n3 xs j))) (fun i _ => R - (intOf i).toNat)
  case atStart => exact ⟨0, Nat.zero_le _, rfl, hb1, _, ho1, fun j hj => by omega, fun j _ hj => hc1 j hj⟩
  case round =>
    clear hc1 ho1 hb1
    obtain ⟨k, hk, rfl, hbr, cs, ho, g1, g2⟩ := hrel
    by_cases hlt : k < R
    · have hlen := oLe ho
      have cell : wr.cell? ⟨w.heap.size, k, none⟩ = some (.int .i64 (rowZ up n3 xs k)) := (ho.cellAt k (by omega)).trans (g2 k (Nat.le_refl _) hlt)
      have wZ : (Lit.int .i64 (rowZ up n3 xs k)).wf = true := wCz _
      have ks := fun W => silu_call (rowZ up n3 xs k) wZ W
      have step := fun (W : World) (hs : W.ownsRow w.heap.size 2 1 (.slice (some ⟨w.heap.size, 0, none⟩) R R) R cs) => And.intro (hs.stored k (.int .i64 (siluZ (rowZ up n3 xs k)))).1 (And.intro (set_step (F := fun j => Value.int .i64 (siluZ (rowZ up n3 xs j))) hlen hlt rfl g1) (fun i (h : k + 1 ≤ i) (hi : i < R) => show (cs.set k (Value.int .i64 (siluZ (rowZ up n3 xs k))))[i]? = some (Value.int .i64 (rowZ up n3 xs i)) from by rw [List.getElem?_set_ne (by omega)]; exact g2 i (by omega) hi))
      have hu : cs[k]? = some (.int .i64 (rowZ up n3 xs k)) := g2 k (Nat.le_refl _) hlt
      obtain ⟨Z, eZ⟩ : ∃ Z, rowZ up n3 xs k = Z := ⟨_, rfl⟩
      rw [eZ] at cell ks step hu
      obtain ⟨E, eE⟩ : ∃ E, siluZ Z = E := ⟨_, rfl⟩
      rw [eE] at ks step
      clear eZ eE wZ g1 g2
      go_wp2_with (go_at_call 240; refine (ks _).mono ?_; rintro e W2 ⟨rfl, hb2⟩
                   have ho2 := oBe ho hb2
                   have cell2 : W2.cell? ⟨w.heap.size, k, none⟩ = some (.int .i64 Z) := (ho2.cellAt k (by omega)).trans hu
                   have froz2 := ho2.frozenAt k
                   have R0 : Below w.heap.size w (W2.setCell ⟨w.heap.size, k, none⟩ (.int .i64 E)) := (bTn hbr hb2).setCell (Nat.le_refl _) _
                   have R' := hdn (And.intro R0 (step W2 ho2))
                   clear R0
                   clear ho2 hb2)
      go_roundw
      case rel => exact ⟨k + 1, by omega, by go_num, R'.out.1, _, R'.out.2.1, R'.out.2.2.1, R'.out.2.2.2⟩
      case measure => simp [intOf]; omega
    · have e : k = R := by omega
      subst e
      have hr1 : Reads .i64 wr (some ⟨w.heap.size, 0, none⟩) k (hidL up xs) := oRa ho Eh.out.1 (fun z hz => by
        obtain ⟨y, _, rfl⟩ := List.mem_map.1 hz
        exact wf_siluZ y) (fun j hj => by rw [g1 j hj, Eh.out.2 j hj])
      clear g1 g2 ho
      have kd := mat_yes a1 n1 c1 down (n3 : Int) (some ⟨w.heap.size, 0, none⟩) k k (hidL up xs) wr (h1.below hbr) l1 hr1 f2 b1
      have en : n1 / k = n3 := by have := (fitB_yes f2).2.2; omega
      rw [en] at kd
      have hsz := hbr.size
      clear f2 en
      go_wp2_with (first
        | (go_at_call 157; refine kd.mono ?_; rintro e w2 ⟨⟨cs2, rfl, hr2, ho2, -⟩, hb2⟩)
        | (go_at_call 239; refine (must_yes _ _ _ _).mono ?_; rintro e w' ⟨rfl, hq⟩; obtain rfl := hq.symm))
      go_ret
      exact ⟨⟨_, rfl, hr2, hsz, (ho2.lt _ rfl).2⟩, bTn hbr hb2⟩
theorem mix_one_yes (a0:Option Addr)(n0 c0:Nat)(ro:List Int)(a1:Option Addr)(n c1:Nat)(A1:Nat→Option Addr)(C1:Nat→Nat)(U:Nat→List Int)(a2:Option Addr)(m c2:Nat)(A2:Nat→Option Addr)(C2:Nat→Nat)(D:Nat→List Int)(h k:Int)(a5:Option Addr)(n5 c5:Nat)(xs:List Int)(w:World)(h0:Reads .i8 w a0 n0 ro)(l0:n0≤c0)(g1:Nets w a1 n A1 C1 U)(g2:Nets w a2 m A2 C2 D)(h5:Reads .i64 w a5 n5 xs)(wh:(Lit.int .i64 h).wf=true)(wk:(Lit.int .i64 k).wf=true)(b0:n0*8≤140737488355328)(b1:n*24≤140737488351232)(b5:n5*8≤140737488355328)(hn:n=1)(hm:m=1)(hf:oneB (U 0) (D 0) h xs=true) :
  Calls Tryz.prog 208 #[.slice a0 n0 c0,.slice a1 n c1,.slice a2 m c2,.int .i64 h,.int .i64 k,.slice a5 n5 c5] w fun e w'=>(∃ a,e=.returned (.slice (some a) n5 n5)∧Reads .i64 w' (some a) n5 (oneL (U 0) (D 0) xs))∧Below w.heap.size w w':=by
 subst hn
 subst hm
 obtain⟨x,rfl⟩:=g1.grid.some_ (by omega)
 obtain⟨y,rfl⟩:=g2.grid.some_ (by omega)
 have cx:=fun (W:World) (hb:Below w.heap.size w W)=>(g1.grid.below hb).cell x rfl 0 (by omega)
 have cy:=fun (W:World) (hb:Below w.heap.size w W)=>(g2.grid.below hb).cell y rfl 0 (by omega)
 simp only[Addr.add_zero'] at cx cy
 have ko:=fun (W:World) (hb:Below w.heap.size w W)=>one_yes (A1 0) (U 0).length (C1 0) (U 0) (A2 0) (D 0).length (C2 0) (D 0) h a5 n5 c5 xs W ((g1.grid.row 0 (by omega)).below hb) (g1.cap 0 (by omega)) ((g2.grid.row 0 (by omega)).below hb) (g2.cap 0 (by omega)) (h5.below hb) wh (g1.bnd 0 (by omega)) (g2.bnd 0 (by omega)) hf
 go_enter Tryz.func208,Tryz.ntmps208
 go_wp2_with (first
  | (go_at_call 226;refine (need_yes _ _).mono ?_;rintro e w' ⟨rfl,hq⟩;obtain rfl:=hq.symm))
 refine mo_region x y 1 c1 c2 (U 0).length (C1 0) (D 0).length (C2 0) n5 c5 (A1 0) (A2 0) a5 h (oneL (U 0) (D 0) xs) (fun W=>Below w.heap.size w W) (by kernel_rfl) rfl ⟨_,rfl,rfl,rfl,rfl,by kernel_rfl⟩ ⟨_,rfl,rfl,rfl,rfl,by kernel_rfl⟩ ⟨_,rfl,rfl,rfl,rfl,by kernel_rfl⟩ ⟨_,rfl,rfl,rfl,rfl,by kernel_rfl⟩ ⟨_,rfl,rfl,rfl,rfl,by kernel_rfl⟩ ⟨_,rfl,rfl,rfl,rfl,by kernel_rfl⟩ ⟨_,rfl,rfl,rfl,rfl,by kernel_rfl⟩ ⟨_,rfl,rfl,rfl,rfl,by kernel_rfl⟩ ⟨_,rfl,rfl,rfl,rfl,by kernel_rfl⟩ ⟨_,rfl,rfl,rfl,rfl,by kernel_rfl⟩ (Below.refl _ _).drew (run_index23z _ _ _ (by omega)) (fun W hb=>run_load31 (cx W hb)) (run_index23z _ _ _ (by omega)) (fun W hb=>run_load31 (cy W hb)) (fun W hb=>(ko W hb).mono fun e w' ⟨⟨a,q1,q2,q3,q4⟩,q5⟩=>⟨a,q1,q2,q5,bTn hb q5⟩) rfl rfl rfl rfl (Nat.le_of_ble_eq_true rfl) ?_
 intro a W9 hs hd hkp hS9 hval
 obtain⟨b9,e12,f12⟩:=hval 9 12 (by decide) rfl
 have ep:=fPu [34,35,36,37,38,39,40,41,42,12] hs hd (fun s h=>hkp s (fun i hi e=>h (by
  rcases (show i=0∨i=1∨i=2∨i=3∨i=4∨i=5∨i=6∨i=7∨i=8∨i=9 by omega) with rfl|rfl|rfl|rfl|rfl|rfl|rfl|rfl|rfl|rfl<;>(simp only[moD,Option.some.injEq] at e;subst e;simp))))
 simp only[List.foldl] at ep
 rw[e12] at ep
 have H9:=hdn hS9
 clear hs hd hkp hval hS9 e12
 generalize a.tmps.getD 34 undef=g34,a.tmps.getD 35 undef=g35,a.tmps.getD 36 undef=g36,a.tmps.getD 37 undef=g37,a.tmps.getD 38 undef=g38,a.tmps.getD 39 undef=g39,a.tmps.getD 40 undef=g40,a.tmps.getD 41 undef=g41,a.tmps.getD 42 undef=g42 at ep
 simp only[Act.put,List.setIfInBounds_toArray,List.set_cons_succ,List.set_cons_zero] at ep
 subst ep
 go_wp2
 go_ret
 exact⟨⟨_,rfl,f12⟩,H9.out⟩
end Go.Proofs.YtbkjhfmehemgpaaGreat

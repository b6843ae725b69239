/- Texts put together. -/
import Derived.Test.YthliomlmhfjhnaaGreatRows
import Derived.Test.YthliomlmhfjhnaaGreatZf2
import Derived.Test.YthliomlmhfjhnaaGreatZf9
namespace Go.Proofs.YthliomlmhfjhnaaGreat
set_option maxRecDepth 20000
set_option maxHeartbeats 16000000
open Go.ChangeShapes Go.WideShapes Go.ChangeAt Go.RowKit
set_option linter.unusedVariables false
set_option linter.unusedSimpArgs false
section
abbrev fitP (n d:Nat)(r:Int):Prop:=0<d∧n%d=0∧((n/d:Nat):Int)=r
def lowL (za xs:List Int):List Int:=(List.range (za.length/xs.length)).map (rowZ za xs.length xs)
abbrev applOK (za zb:List Int)(rank:Int)(xs:List Int):Prop:=fitP za.length xs.length rank∧fitP zb.length (za.length/xs.length) xs.length
def applE (za zb:List Int)(rank:Int)(xs:List Int):Int:=if applOK za zb rank xs then 0 else 21
def applN (za zb xs:List Int)(shift:Int)(i:Nat):Int:=shiftZ (rowZ zb (za.length/xs.length) (lowL za xs) i) shift
def applR (za zb:List Int)(rank shift:Int)(xs:List Int):List Int:=if applOK za zb rank xs then (List.range xs.length).map (applN za zb xs shift) else []
theorem apply_no1 (a0:Option Addr)(na ca:Nat)(a1:Option Addr)(nb cb:Nat)(rank shift:Int)(a2:Option Addr)(d c2:Nat)(w:World)
  (k47:∀ W,Calls Tryz.prog 49 #[.slice a0 na ca,.int .i64 rank,.slice a2 d c2] W fun e w'=>e=.returned (.tuple #[.slice none 0 0,.int .i64 21])∧w'=W) :
  Calls Tryz.prog 94 #[.slice a0 na ca,.slice a1 nb cb,.int .i64 rank,.int .i64 shift,.slice a2 d c2] w fun e w'=>e=.returned (.tuple #[.slice none 0 0,.int .i64 21])∧Below w.heap.size w w':=by
 go_enter Tryz.func94,Tryz.ntmps94
 go_wp2_with (go_at_call 49;refine (k47 _).mono ?_;rintro e w' ⟨rfl,h⟩;obtain rfl:=h.symm)
 go_ret2
 exact⟨rfl,Below.refl _ _⟩
theorem apply_no2 (a0:Option Addr)(na ca:Nat)(a1:Option Addr)(nb cb:Nat)(rank shift:Int)(a2:Option Addr)(d c2 R:Nat)(w:World)(hd:d≤9223372036854775807)
  (k47:∀ W,Below w.heap.size w W→Calls Tryz.prog 49 #[.slice a0 na ca,.int .i64 rank,.slice a2 d c2] W fun e w'=>(∃ a c,e=.returned (.tuple #[.slice a R c,.int .i64 0]))∧Below W.heap.size W w')
  (k47':∀ W a c,Calls Tryz.prog 49 #[.slice a1 nb cb,.int .i64 d,.slice a R c] W fun e w'=>e=.returned (.tuple #[.slice none 0 0,.int .i64 21])∧w'=W) :
  Calls Tryz.prog 94 #[.slice a0 na ca,.slice a1 nb cb,.int .i64 rank,.int .i64 shift,.slice a2 d c2] w fun e w'=>e=.returned (.tuple #[.slice none 0 0,.int .i64 21])∧Below w.heap.size w w':=by
 have hb:=Below.refl w.heap.size w
 go_enter Tryz.func94,Tryz.ntmps94
 go_wp2_with (first
  | (go_at_call_of 49 rank;refine (k47 _ hb).mono ?_;rintro e w1 ⟨⟨a,c,rfl⟩,h⟩;replace hb:=bTn hb h;clear h k47)
  | (go_at_call 49;refine (k47' _ a c).mono ?_;rintro e w' ⟨rfl,h⟩;obtain rfl:=h.symm))
 go_ret2
 exact⟨rfl,hb⟩
theorem apply_yes (a0:Option Addr)(na ca:Nat)(a1:Option Addr)(nb cb:Nat)(rank shift:Int)(a2:Option Addr)(d c2 R:Nat)(w:World)(ls:List Int)(rs:Nat→Int)(hd:d≤9223372036854775807)(hs:(Lit.int .i64 shift).wf=true)(hrs:∀ i,(Lit.int .i64 (rs i)).wf=true)
  (k47:∀ W,Below w.heap.size w W→Calls Tryz.prog 49 #[.slice a0 na ca,.int .i64 rank,.slice a2 d c2] W fun e w'=>(∃ a c,e=.returned (.tuple #[.slice a R c,.int .i64 0])∧Reads .i64 w' a R ls)∧Below W.heap.size W w')
  (k47':∀ W a c,Below w.heap.size w W→Reads .i64 W a R ls→Calls Tryz.prog 49 #[.slice a1 nb cb,.int .i64 d,.slice a R c] W fun e w'=>(∃ cs,e=.returned (.tuple #[.slice (some ⟨W.heap.size,0,none⟩) d d,.int .i64 0])∧w'.ownsRow W.heap.size 2 1 (.slice (some ⟨W.heap.size,0,none⟩) d d) d cs∧∀ j,j<d→cs[j]? = some (.int .i64 (rs j)))∧Below W.heap.size W w') :
  Calls Tryz.prog 94 #[.slice a0 na ca,.slice a1 nb cb,.int .i64 rank,.int .i64 shift,.slice a2 d c2] w fun e w'=>∃ a c,e=.returned (.tuple #[.slice a d c,.int .i64 0])∧Reads .i64 w' a d ((List.range d).map fun i=>shiftZ (rs i) shift)∧Below w.heap.size w w':=by
 have hb:=Below.refl w.heap.size w
 go_enter Tryz.func94,Tryz.ntmps94
 go_wp2_with (first
  | (go_at_call_of 49 rank;refine (k47 _ hb).mono ?_;rintro e w1 ⟨⟨a,c,rfl,r1⟩,h⟩;replace hb:=bTn hb h;clear h k47)
  | (go_at_call 49;refine (k47' _ a c hb r1).mono ?_;rintro e w2 ⟨⟨cs,rfl,ho,hcs⟩,h⟩))
 have hs1:=hb.size
 have HB:=hdn hb
 clear hb k47' r1
 have HH:=hdn h
 clear h
 have HO:=hdn (And.intro ho hcs)
 clear ho hcs
 go_loopw [15,16,40] (fun _ _ i wr=>∃ k:Nat,k≤d∧i=.int .i64 k∧Below w1.heap.size w1 wr∧∃ cs,wr.ownsRow w1.heap.size 2 1 (.slice (some ⟨w1.heap.size,0,none⟩) d d) d cs∧∀ j,j<d→cs[j]? = some (.int .i64 (if j<k then shiftZ (rs j) shift else rs j))) (fun _ _ i _=>d-(intOf i).toNat)
 case atStart=>exact⟨0,Nat.zero_le _,rfl,HH.out,_,HO.out.1,fun j hj=>by rw[if_neg (by omega)];exact HO.out.2 j hj⟩
 case round =>
  obtain⟨k,hk,rfl,hbr,cs,ho,hcs⟩:=hrel
  by_cases hlt:k<d
  ·have hlen:=own_length ho
   have cell:wr.cell? ⟨w1.heap.size,k,none⟩=cs[k]?:=ho.cellAt k (by omega)
   rw[hcs k hlt,if_neg (by omega)] at cell
   have froz:=ho.frozenAt k
   have st:=fun v=>ho.stored k v
   have wk:=hrs k
   obtain⟨V,eV⟩:∃ V,rs k=V:=⟨_,rfl⟩
   rw[eV] at cell wk
   have kp:=shift_call V shift wk hs
   have R':Hid (Below w1.heap.size w1 (wr.setCell ⟨w1.heap.size,k,none⟩ (.int .i64 (shiftZ V shift)))∧∃ cs',(wr.setCell ⟨w1.heap.size,k,none⟩ (.int .i64 (shiftZ V shift))).ownsRow w1.heap.size 2 1 (.slice (some ⟨w1.heap.size,0,none⟩) d d) d cs'∧∀ j,j<d→cs'[j]? = some (.int .i64 (if j<k+1 then shiftZ (rs j) shift else rs j))):=by
    refine⟨hbr.setCell (Nat.le_refl _) _,_,(st _).1,fun j hj=>?_⟩
    by_cases e:j=k
    ·subst e
     rw[if_pos (by omega),eV]
     simp[hlen,hj]
    ·rw[List.getElem?_set_ne (by omega),hcs j hj]
     by_cases e2:j<k
     ·rw[if_pos e2,if_pos (by omega)]
     ·rw[if_neg e2,if_neg (by omega)]
   obtain⟨SV,eSV⟩:∃ SV,shiftZ V shift=SV:=⟨_,rfl⟩
   rw[eSV] at R'
   simp only[eSV] at kp
   clear st hcs ho hlen hbr eSV eV
   go_wp2_with (go_at_call 115;refine (kp _).mono ?_;rintro e w' ⟨rfl,h⟩;obtain rfl:=h.symm)
   go_roundw
   case rel=>exact⟨k+1,by omega,by go_num,R'.out⟩
   case measure=>simp[intOf];omega
  ·have e:k=d:=by omega
   subst e
   have fin:=own_reads_at (zs:=(List.range k).map fun i=>shiftZ (rs i) shift) ho (by simp) (fun z hz=>by obtain⟨y,_,rfl⟩:=List.mem_map.1 hz;exact wf_shiftZ _ _ (hrs y)) (fun j hj=>by rw[hcs j hj,if_pos hj];simp[hj])
   clear hcs ho
   go_wp2
   go_ret2
   exact⟨_,_,rfl,fin,bTn HB.out hbr⟩
theorem apply_call (a0:Option Addr)(na ca:Nat)(za:List Int)(a1:Option Addr)(nb cb:Nat)(zb:List Int)(rank shift:Int)(a2:Option Addr)(d c2:Nat)(xs:List Int)(w:World)
  (h0:Reads .i8 w a0 na za) (hc0:na≤ca) (h1:Reads .i8 w a1 nb zb) (hc1:nb≤cb) (h2:Reads .i64 w a2 d xs) (hr:(Lit.int .i64 rank).wf=true) (hs:(Lit.int .i64 shift).wf=true) (hb:na*8≤140737488355328) (hb2:nb*8≤140737488355328) :
  Calls Tryz.prog 94 #[.slice a0 na ca,.slice a1 nb cb,.int .i64 rank,.int .i64 shift,.slice a2 d c2] w fun e w'=>∃ a m c,e=.returned (.tuple #[.slice a m c,.int .i64 (applE za zb rank xs)])∧Reads .i64 w' a m (applR za zb rank shift xs)∧Below w.heap.size w w':=by
 obtain rfl:=h0.len
 obtain rfl:=h1.len
 obtain rfl:=h2.len
 unfold applE applR
 have hm:=h0.max
 have hm1:=h1.max
 have hm2:=h2.max
 by_cases f1:fitP za.length xs.length rank
 ·obtain⟨g1,g2,g3⟩:=f1
  have e:za.length=za.length/xs.length*xs.length:=by have:=Nat.div_add_mod za.length xs.length;rw[g2,Nat.mul_comm] at this;omega
  have hle:=Nat.div_le_self za.length xs.length
  have kA:=fun W (hW:Below w.heap.size w W)=>mat_fits a0 za.length ca za (za.length/xs.length) a2 xs.length c2 xs W (h0.below hW) hc0 (h2.below hW) g1 e (by omega)
  rw[g3] at kA
  by_cases f2:fitP zb.length (za.length/xs.length) xs.length
  ·have ok:applOK za zb rank xs:=⟨⟨g1,g2,g3⟩,f2⟩
   rw[if_pos ok,if_pos ok]
   obtain⟨g4,g5,g6⟩:=f2
   have e':zb.length=xs.length*(za.length/xs.length):=by have:=Nat.div_add_mod zb.length (za.length/xs.length);rw[g5,Nat.mul_comm,show zb.length/(za.length/xs.length)=xs.length by omega] at this;omega
   have hle':=Nat.div_le_self zb.length (za.length/xs.length)
   refine (apply_yes a0 za.length ca a1 zb.length cb rank shift a2 xs.length c2 (za.length/xs.length) w (lowL za xs) (rowZ zb (za.length/xs.length) (lowL za xs)) hm2 hs (fun i=>wf_clampZ _) (fun W hW=>(kA W hW).mono fun e w' ⟨⟨a,c,cs,he,hre,_⟩,hb⟩=>⟨⟨a,c,he,hre⟩,hb⟩) (fun W a c hW hre=>?_)).mono fun e w' ⟨a,c,he,hre,hb⟩=>⟨a,_,c,he,hre,hb⟩
   refine (mat_fits a1 zb.length cb zb xs.length a (za.length/xs.length) c (lowL za xs) W (h1.below hW) hc1 hre g4 e' (by omega)).mono ?_
   rintro e w' ⟨⟨a,c,cs,he,hre,rfl,rfl,ho,hcs⟩,hb⟩
   exact⟨⟨cs,he,ho,hcs⟩,hb⟩
  ·have no:¬applOK za zb rank xs:=fun k=>f2 k.2
   rw[if_neg no,if_neg no]
   refine (apply_no2 a0 za.length ca a1 zb.length cb rank shift a2 xs.length c2 (za.length/xs.length) w hm2 (fun W hW=>(kA W hW).mono fun e w' ⟨⟨a,c,cs,he,_⟩,hb⟩=>⟨⟨a,c,he⟩,hb⟩) (fun W a c=>mat_not a1 zb.length cb xs.length a (za.length/xs.length) c W hm1 (by omega) (WalkArith.wf_i64 ⟨by omega,by omega⟩) f2)).mono fun e w' ⟨he,hb⟩=>⟨none,0,0,he,Reads.nil _ _,hb⟩
 ·have no:¬applOK za zb rank xs:=fun k=>f1 k.1
  rw[if_neg no,if_neg no]
  exact (apply_no1 a0 za.length ca a1 zb.length cb rank shift a2 xs.length c2 w (fun W=>mat_not a0 za.length ca rank a2 xs.length c2 W hm hm2 hr f1)).mono fun e w' ⟨he,hb⟩=>⟨none,0,0,he,Reads.nil _ _,hb⟩
end
end Go.Proofs.YthliomlmhfjhnaaGreat

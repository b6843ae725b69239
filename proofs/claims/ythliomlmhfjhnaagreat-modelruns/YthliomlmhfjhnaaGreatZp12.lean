/- Texts put together. -/
import Derived.Test.YthliomlmhfjhnaaGreatZp10
import Derived.Test.YthliomlmhfjhnaaGreatZp6
namespace Go.Proofs.YthliomlmhfjhnaaGreat
set_option maxRecDepth 20000
set_option maxHeartbeats 16000000
open Go.ChangeShapes Go.WideShapes Go.ChangeAt Go.RowKit
set_option linter.unusedVariables false
set_option linter.unusedSimpArgs false
section
open Go.ChangeShapes Go.WideShapes Go.ChangeAt Go.RowKit Go.Shelf Go.Lib Go.Sort
def encF (m:Nat)(i:Fin (m+1)):Value:=I4 (i.val:Nat)
def cfF (xs:List Int)(m:Nat)(i j:Fin (m+1)):Int:=cfZ xs i.val j.val
theorem ltF (xs:List Int)(m:Nat)(i j:Fin (m+1)):ltOf (cfF xs m) i j=YthliomlmhfjhnaaGreat.ahead xs i.val j.val:=Qnx xs i.val j.val
theorem swoF (xs:List Int)(m:Nat):SWO (ltOf (cfF xs m)) :=
 ⟨fun x=>by rw[ltF];exact Qd0 _ _,fun x y z h1 h2=>by rw[ltF] at *;exact QiB h1 h2,fun x y z h1 h2=>by rw[ltF] at *;exact QdZ h1 h2⟩
theorem totF (xs:List Int)(m:Nat)(x y:Fin (m+1))(h1:ltOf (cfF xs m) x y=false)(h2:ltOf (cfF xs m) y x=false):x=y:=by
 rw[ltF] at *
 exact Fin.ext (Qe4 h1 h2)
def QbL (m:Nat):Array (Fin (m+1)):=Array.ofFn fun i=>i
theorem QaU (m:Nat):(QbL m).size=m+1:=by simp[QbL]
theorem Qhb (m j:Nat)(h:j<m+1):((QbL m)[j]!).val=j:=by
 rw[getElem!_pos _ j (by rw[QaU];exact h)]
 simp[QbL]
theorem Qiq (m:Nat):(QbL m).toList.map Fin.val=List.range (m+1):=by
 apply List.ext_getElem
 ·simp[QbL]
 ·intro i h1 h2
  have hi:i<m+1:=by simpa using h2
  have e:=Qhb m i hi
  rw[getElem!_pos _ i (by rw[QaU];exact hi)] at e
  rw[List.getElem_map,List.getElem_range,Array.getElem_toList]
  exact e
theorem QhE (xs:List Int)(m:Nat)(h:xs.length=m+1):((QbL m).toList.mergeSort fun x y=>!(ltOf (cfF xs m)) y x).map Fin.val=QaX xs:=by
 unfold QaX
 rw[h,←Qiq]
 exact List.map_mergeSort fun a _ b _=>by rw[ltF]
theorem Qko (xs:List Int)(m:Nat)(h:xs.length=m+1)(j:Nat)(hj:j<m+1):encF m (((QbL m).toList.mergeSort fun x y=>!(ltOf (cfF xs m)) y x).toArray[j]!)=I4 ((QaX xs).getD j 0:Nat):=by
 have hl:((QbL m).toList.mergeSort fun x y=>!(ltOf (cfF xs m)) y x).length=m+1:=by rw[List.length_mergeSort,Array.length_toList,QaU]
 rw[←QhE xs m h,getElem!_pos _ j (by rw[List.size_toArray,hl];exact hj)]
 unfold encF
 congr 2
 rw[List.getElem_toArray,List.getD_eq_getElem?_getD,List.getElem?_map,List.getElem?_eq_getElem (by rw[hl];exact hj)]
 rfl
theorem QjQ {α:Type}[Inhabited α](enc:α→Value)(w:World)(blk off n:Nat)(dk:Array α)(os:Array Obj)(h:blk<w.heap.size):Below blk w (sortWorld enc w blk off n dk os):=by
 refine⟨rfl,rfl,rfl,?_,fun k hk=>?_⟩
 ·unfold sortWorld
  rw[Go.Sort.size_grow,size_putRow]
  show w.heap.size≤w.heap.size+_
  omega
 ·show ((w.heap.modify blk _)++os)[k]? = w.heap[k]?
  rw[Array.getElem?_append_left (by simp;omega),Array.getElem?_modify,if_neg (by omega)]
theorem Qg3 {α:Type}[Inhabited α](enc:α→Value)(w:World)(blk off n:Nat)(dk:Array α)(os:Array Obj){p:Addr}{v:Value}(hp:p.block≠blk)(h:w.cell? p=some v):(sortWorld enc w blk off n dk os).cell? p=some v:=by
 unfold sortWorld
 rw[cell?_grow _ _ _ (by rw[size_putRow];exact World.block_lt_of_cell? _ _ h),cell?_putRow_other _ _ _ _ _ _ (.inl hp)]
 exact h
theorem Qhn (x:Addr)(i:Nat):(x.add i).block=x.block:=by
 unfold Addr.add
 split<;>rfl
theorem QmC (xs:List Int)(m b blk:Nat)(x:Addr)(c:Nat)(w:World)(hbx:w.cell? ⟨b,0,none⟩=some (.slice (some x) (m+1) c))(hr:Reads .i64 w (some x) (m+1) xs)(hne:b≠blk)(hnx:x.block≠blk)(off size:Nat) :
  CmpLays1 Tryz.prog 162 #[Pt b] (encF m) (cfF xs m) blk off size w:=by
 intro q os dk hs i j
 have h1:(sortWorld (encF m) w blk off q dk os).cell? ⟨b,0,none⟩=some (.slice (some x) (m+1) c):=Qg3 _ _ _ _ _ _ _ hne hbx
 have h2:Reads .i64 (sortWorld (encF m) w blk off q dk os) (some x) (m+1) xs :=
  ⟨hr.len,hr.max,hr.wf,hr.some_,fun y hy k hk=>Qg3 _ _ _ _ _ _ _ (by obtain rfl:=Option.some.inj hy;rw[Qhn];exact hnx) (hr.cell y hy k hk)⟩
 refine (Qhf b x (m+1) c xs i.val j.val i.isLt j.isLt _ h1 h2).mono ?_
 rintro e w' ⟨he,o,hw⟩
 exact⟨he,1,#[o],by rw[hw,←alloc_eq_grow];rfl⟩
theorem Qnr:∀ args w,(callFunc 162 args).run Tryz.prog w=.ok (.enter 162 args) w:=eNo Tryz.func162 (by kernel_rfl) rfl
theorem Qkp (xs:List Int)(m b blk cap:Nat)(x:Addr)(c:Nat)(w:World)(hbx:w.cell? ⟨b,0,none⟩=some (.slice (some x) (m+1) c))(hr:Reads .i64 w (some x) (m+1) xs)(hne:b≠blk)(hnx:x.block≠blk)
  (hp:∀ j,j<m+1→w.cell? ⟨blk,j,none⟩=some (I4 (j:Nat))∧w.frozen? ⟨blk,j,none⟩=false) (hblk:blk<w.heap.size) (hsz:m+1<4611686018427387904) :
  Calls Tryz.prog 156 #[.slice (some ⟨blk,0,none⟩) (m+1) cap,.func (.func 162) #[] #[Pt b]] w fun e w' =>
   e=.returned (.tuple #[])∧Below blk w w'∧∀ j,j<m+1→w'.cell? ⟨blk,j,none⟩=some (I4 ((QaX xs).getD j 0:Nat)):=by
 have hH:Holds (encF m) w blk 0 (QbL m):=by
  intro j hj
  rw[QaU] at hj
  have:=hp j hj
  rw[Nat.zero_add]
  refine⟨this.1.trans ?_,this.2⟩
  unfold encF
  rw[Qhb m j hj]
 have h:=Any.slices_SortFunc_total QnQ (encF m) (fun _=>rfl) (cfF xs m) (swoF xs m) 162 #[Pt b] blk 0 cap (QbL m) w Qnr (QmC xs m b blk x c w hbx hr hne hnx 0 _) hH hblk (by rw[QaU];exact hsz) (totF xs m)
 rw[QaU] at h
 refine Calls.mono h ?_
 rintro e w' ⟨he,n,os,hw⟩
 refine⟨he,by rw[hw];exact QjQ _ _ _ _ _ _ _ hblk,fun j hj=>?_⟩
 have hl:((QbL m).toList.mergeSort fun x y=>!(ltOf (cfF xs m)) y x).toArray.size=(QbL m).size:=by rw[List.size_toArray,List.length_mergeSort,Array.length_toList]
 have g:=(holds_sortWorld (encF m) w blk 0 n (QbL m) _ os hblk hH hl j (by rw[hl,QaU];exact hj)).1
 rw[Nat.zero_add,Qko xs m hr.len j hj] at g
 rw[hw]
 exact g
theorem Qkq (p:Option Addr)(cap:Nat)(fv:Value)(w:World):Calls Tryz.prog 156 #[.slice p 0 cap,fv] w fun e w'=>e=.returned (.tuple #[])∧w'=w :=
 AnyF.slices_SortFunc_none (P:=Tryz.prog) (ρ:=Qgm) { QnQ with } p cap fv w
end
theorem QnJ (i:Nat)(h:i≤9223372036854775807):(Lit.int .i64 (i:Int)).wf=true:=by
 simp only[Lit.wf,IntKind.min,IntKind.max,IntKind.signed,IntKind.bits]
 simp
 omega
def allZ (xs:List Int):List Int:=(QaX xs).map fun (i:Nat)=>(i:Int)
theorem QcW (xs:List Int):(allZ xs).length=xs.length:=by simp[allZ,Qbm]
theorem QnD (xs:List Int)(j:Nat)(h:j<xs.length):(allZ xs).getD j 0=((QaX xs).getD j 0:Nat):=by
 have h2:j<(QaX xs).length:=by rw[Qbm];exact h
 simp[allZ,List.getD,h2]
theorem QiA (xs:List Int)(h:xs.length≤9223372036854775807):∀ z∈allZ xs,(Lit.int .i64 z).wf=true:=by
 intro z hz
 obtain⟨i,hi,rfl⟩:=List.mem_map.1 hz
 have:=List.mem_range.1 ((Qbc xs).1.mem_iff.1 hi)
 exact QnJ i (by omega)
theorem QiD (xs:List Int)(k:Int):Qcf xs k=(allZ xs).take k.toNat:=by unfold Qcf allZ;rw[List.map_take]
theorem QlV (n:Nat)(xs:List Int)(a0:Option Addr)(c0:Nat)(w wr:World)(h0:Reads .i64 w a0 n xs)(hbr:Bw w wr)
  (hp:∀ j,j<n→wr.cell? ⟨w.heap.size,j,none⟩=some (I4 (j:Nat))∧wr.frozen? ⟨w.heap.size,j,none⟩=false) (hB:w.heap.size<wr.heap.size) (hsz:n<4611686018427387904) :
  Calls Tryz.prog 156 #[.slice (some ⟨w.heap.size,0,none⟩) n n,.func (.func 162) #[] #[Pt wr.heap.size]] (wr.alloc (.cells #[.slice a0 n c0] 34)) fun e w' =>
   e=.returned (.tuple #[])∧Bw w w'∧Reads .i64 w' (some ⟨w.heap.size,0,none⟩) n (allZ xs):=by
 have hl:=h0.len
 have hm:=h0.max
 have hb2:Bw w (wr.alloc (.cells #[.slice a0 n c0] 34)):=bNw hbr _
 cases n with
 | zero =>
  refine (Qkq _ _ _ _).mono ?_
  rintro e w' ⟨he,hw⟩
  refine⟨he,by rw[hw];exact hb2,Reads.of_row (by rw[QcW,hl]) (by omega) (QiA xs (by omega)) fun i hi=>by omega⟩
 | succ m =>
  obtain⟨x,rfl⟩:=h0.some_ (by omega)
  have hx:x.block<w.heap.size:=by
   have:=World.block_lt_of_cell? _ _ (h0.cell x rfl 0 (by omega))
   rwa [Qhn] at this
  refine (Qkp xs m wr.heap.size w.heap.size (m+1) x c0 _ (by simp) (h0.below hb2) (by omega) (by omega) (fun j hj=>?_) (by have:=hb2.size;simp;omega) hsz).mono ?_
  ·obtain⟨h1,h2⟩:=hp j hj
   have hlt:w.heap.size<wr.heap.size:=hB
   refine⟨?_,?_⟩
   ·exact QjR (bNw bR _) h1
   ·rw[←h2]
    exact (bNw (Below.refl wr.heap.size wr) _).frozen hlt
  ·rintro e w' ⟨he,hb,hc⟩
   refine⟨he,⟨hb.os.trans hb2.os,hb.tape.trans hb2.tape,hb.output.trans hb2.output,Nat.le_trans hb2.size hb.size,fun k hk=>(hb.block k hk).trans (hb2.block k hk)⟩,Reads.of_row (by rw[QcW,hl]) (by omega) (QiA xs (by omega)) fun i hi=>?_⟩
   rw[QnD xs i (by omega),←hc i hi]
   congr 1
   simp[Addr.add]
   intro h;exact h.symm
theorem QjI (x:Addr)(m c:Nat)(zs:List Int)(w:World)(h0:Reads .i64 w (some x) m zs)(hb:m*8≤140737488355328) :
  Calls Tryz.prog 158 #[.slice (some x) m c] w fun e w'=>(∃ a c,e=.returned (.slice a m c)∧Reads .i64 w' a m zs∧(a=none→c=0)∧m≤c)∧Bw w w':=by
 obtain⟨i0,hi,hz0,hz1,hz2⟩:=info_parts Qmr
 have hm:=h0.max
 have hb0:=Below.refl w.heap.size w
 have q25:∀ (w:World) (a:Option Addr) (n c n' c':Nat),(binOp .eql 45 (.slice a n c) (.slice none n' c')).run Tryz.prog w=.ok (.bool a.isNone) w:=fun w a n c n' c'=>Lib.run_eql_slice_nil w _ _ a n c n' c' Tryz.underlying45
 go_enter Tryz.func158,Tryz.ntmps158
 go_wp2_with (first
  | (at_builtin;refine Qav rfl (.tmp 5) (.tmp 6) 45 rfl w.heap.size 3 i0 (I4 0) 8 Tryz.underlying45 hi hz0 hz1 hz2 rfl _ 0 [] rfl (World.ownsRow_lit _ #[] 0 hb0.size (by decide) rfl) .i64 (some x) m c zs rfl (h0.below (bNw hb0 _)) (fun h=>by cases h) (by unfold maxLen;omega) (by omega) (bNw hb0 _).size ?_;intro v1 W1 ho1 hg1;obtain⟨p1,q1,rfl,r1,hb1,e1,l1⟩:=Qhd hb0 _ ho1 hg1 h0;clear ho1 hg1))
 go_ret
 exact⟨⟨_,_,rfl,r1,e1,l1⟩,hb1⟩
theorem QlQ (a0:Option Addr)(n c0:Nat)(k:Int)(w:World)(hk:k<1) :
  Calls Tryz.prog 153 #[.slice a0 n c0,I4 k] w fun e w'=>e=.returned (.slice none 0 0)∧w'=w:=by
 go_enter Tryz.func153,Tryz.ntmps153
 go_wp2_with fail
 go_ret
 exact⟨rfl,rfl⟩
theorem QlP (a0:Option Addr)(n c0:Nat)(xs:List Int)(k:Int)(w:World)(h0:Reads .i64 w a0 n xs)(hk:1≤k)(hb:n*8≤140737488355328) :
  Calls Tryz.prog 153 #[.slice a0 n c0,I4 k] w fun e w'=>(∃ a c,e=.returned (.slice a (min k.toNat n) c)∧Reads .i64 w' a (min k.toNat n) (Qcf xs k)∧(a=none→c=0)∧min k.toNat n≤c)∧Bw w w':=by
 obtain⟨i0,hi,hz0,hz1,hz2⟩:=info_parts Qmr
 have hm:=h0.max
 have hl:=h0.len
 have hk':¬k<1:=by omega
 obtain⟨K,eK⟩:∃ K:Nat,k=K:=⟨k.toNat,by omega⟩
 subst eK
 rw[QiD,Int.toNat_natCast,show (allZ xs).take K=(allZ xs).take (min K n) by rw[show n=(allZ xs).length by rw[QcW];omega,←List.take_eq_take_min]]
 obtain⟨M,eM⟩:∃ M,min K n=M:=⟨_,rfl⟩
 rw[eM]
 go_enter Tryz.func153,Tryz.ntmps153
 go_wp2_with (first
  | (at_make;refine wpList_make_full _ rfl (.tmp 10) (.tmp 10) 45 rfl w.heap.size 3 i0 (I4 0) 1 Tryz.underlying45 hi hz0 hz1 .i64 .i64 _ _ n rfl rfl rfl rfl (by rw[hz2];omega) (by unfold maxLen;omega) nL ?_;intro w1 hown hgrow))
 have hbel:Bw w w1:=bR.grown hgrow nL (fun k h=>by cases h)
 go_wp2
 go_loopw [14] (fun i wr=>∃ q:Nat,q≤n∧i=I4 q∧Bw w wr∧∃ cs,wr.ownsRow w.heap.size 3 1 (.slice (some ⟨w.heap.size,0,none⟩) n n) n cs∧∀ j,j<q→cs[j]? = some (I4 (j:Nat))) (fun i _=>n-(intOf i).toNat)
 case atStart=>exact⟨0,Nat.zero_le _,rfl,hbel,_,hown,fun j hj=>by omega⟩
 case round =>
  obtain⟨q,hq,rfl,hbr,cs,ho,hcs⟩:=hrel
  by_cases hlt:q<n
  ·have hlen:=oLe ho
   have cell:wr.cell? ⟨w.heap.size,q,none⟩=cs[q]?:=ho.cellAt q (by omega)
   obtain⟨u,hu⟩:∃ u,cs[q]? = some u:=⟨cs[q],by simp[hlen,hlt]⟩
   rw[hu] at cell
   have froz:=ho.frozenAt q
   have R:Hid (Bw w (wr.setCell ⟨w.heap.size,q,none⟩ (I4 (q:Nat)))∧∃ cs',(wr.setCell ⟨w.heap.size,q,none⟩ (I4 (q:Nat))).ownsRow w.heap.size 3 1 (.slice (some ⟨w.heap.size,0,none⟩) n n) n cs'∧∀ j,j<q+1→cs'[j]? = some (I4 (j:Nat))) :=
    ⟨hbr.setCell nL _,_,(ho.stored q _).1,set_step (F:=fun j=>Value.int .i64 (j:Nat)) hlen hlt rfl hcs⟩
   clear hcs ho hu hlen hbr
   go_wp2
   go_roundw
   case rel=>exact⟨q+1,by omega,by go_num,R.out⟩
   case measure=>simp[intOf];omega
  ·have e:q=n:=by omega
   subst e
   have hlen:=oLe ho
   have ks:=QlV q xs a0 c0 w wr h0 hbr (fun j hj=>⟨(ho.cellAt j (by omega)).trans (hcs j hj),ho.frozenAt j⟩) (ho.lt w.heap.size rfl).2 (by omega)
   have kc:=fun (m c:Nat) (hm:m≤q) (W:World) (r:Reads .i64 W (some ⟨w.heap.size,0,none⟩) q (allZ xs))=>QjI ⟨w.heap.size,0,none⟩ m c ((allZ xs).take m) W (by have:=r.cut 0 m (by omega);simpa [Addr.add] using this) (by omega)
   clear hcs ho hlen hown hgrow hbel hi hz0 hz1 hz2 h0
   have eT:(min (K:Int) (q:Int)).toNat=M:=by omega
   have hM:M≤q:=by omega
   clear eM
   go_wp2_with (first
    | (go_at_call 157;refine (Qjr _ _ _ _).mono ?_;rintro e W1 ⟨rfl,rfl⟩)
    | (go_at_call 156;refine ks.mono ?_;rintro e W2 ⟨rfl,hb2,r2⟩)
    | (go_at_call 158;refine (kc _ _ (by first|omega|assumption) _ r2).mono ?_;rintro e W3 ⟨⟨p3,c3,rfl,r3,e3,l3⟩,hb3⟩))
   go_ret
   exact⟨⟨_,_,rfl,r3,e3,l3⟩,bTn hb2 hb3⟩
theorem QlR (a0:Option Addr)(n c0:Nat)(xs:List Int)(k:Int)(w:World)(h0:Reads .i64 w a0 n xs)(hb:n*8≤140737488355328) :
  Calls Tryz.prog 153 #[.slice a0 n c0,I4 k] w fun e w'=>(∃ a c,e=.returned (.slice a (min k.toNat n) c)∧Reads .i64 w' a (min k.toNat n) (Qcf xs k)∧(a=none→c=0)∧min k.toNat n≤c)∧Bw w w':=by
 by_cases h:k<1
 ·have e:k.toNat=0:=by omega
  have e2:Qcf xs k=[]:=by unfold Qcf;rw[e];simp
  rw[e2,e,Nat.zero_min]
  exact (QlQ a0 n c0 k w h).mono fun e w' ⟨he,hw⟩=>⟨⟨_,_,he,Reads.nil _ _,fun _=>rfl,Nat.le_refl _⟩,hw ▸ Below.refl _ _⟩
 ·exact QlP a0 n c0 xs k w h0 (by omega) hb
end Go.Proofs.YthliomlmhfjhnaaGreat

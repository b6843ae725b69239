/- Texts put together. -/
import Derived.Test.YtbkjhfmehemgpaaGreatFb9
import Derived.Test.YtbkjhfmehemgpaaGreatFb12
import Derived.Lib.AppendZeros
namespace Go.Proofs.YtbkjhfmehemgpaaGreat
set_option maxRecDepth 20000
set_option maxHeartbeats 16000000
open Go.ChangeShapes Go.WideShapes Go.ChangeAt Go.RowKit
set_option linter.unusedVariables false
set_option linter.unusedSimpArgs false
theorem wf_nat (i:Nat)(h:i≤9223372036854775807):(Lit.int .i64 (i:Int)).wf=true:=by
 simp only[Lit.wf,IntKind.min,IntKind.max,IntKind.signed,IntKind.bits]
 simp
 omega
def allZ (xs:List Int):List Int:=(places xs).map fun (i:Nat)=>(i:Int)
theorem allZ_length (xs:List Int):(allZ xs).length=xs.length:=by simp[allZ,places_length]
theorem allZ_at (xs:List Int)(j:Nat)(h:j<xs.length):(allZ xs).getD j 0=((places xs).getD j 0:Nat):=by
 have h2:j<(places xs).length:=by rw[places_length];exact h
 simp[allZ,List.getD,h2]
theorem allZ_wf (xs:List Int)(h:xs.length≤9223372036854775807):∀ z∈allZ xs,(Lit.int .i64 z).wf=true:=by
 intro z hz
 obtain⟨i,hi,rfl⟩:=List.mem_map.1 hz
 have:=List.mem_range.1 ((places_ordered xs).1.mem_iff.1 hi)
 exact wf_nat i (by omega)
theorem topZ_all (xs:List Int)(k:Int):pickZ xs k=(allZ xs).take k.toNat:=by unfold pickZ allZ;rw[List.map_take]
theorem sort_row (n:Nat)(xs:List Int)(a0:Option Addr)(c0:Nat)(w wr:World)(h0:Reads .i64 w a0 n xs)(hbr:Below w.heap.size w wr)
  (hp:∀ j,j<n→wr.cell? ⟨w.heap.size,j,none⟩=some (.int .i64 (j:Nat))∧wr.frozen? ⟨w.heap.size,j,none⟩=false) (hB:w.heap.size<wr.heap.size) (hsz:n<4611686018427387904) :
  Calls Tryz.prog 163 #[.slice (some ⟨w.heap.size,0,none⟩) n n,.func (.func 158) #[] #[.pointer (some ⟨wr.heap.size,0,none⟩)]] (wr.alloc (.cells #[.slice a0 n c0] 70)) fun e w' =>
   e=.returned (.tuple #[])∧Below w.heap.size w w'∧Reads .i64 w' (some ⟨w.heap.size,0,none⟩) n (allZ xs):=by
 have hl:=h0.len
 have hm:=h0.max
 have hb2:Below w.heap.size w (wr.alloc (.cells #[.slice a0 n c0] 70)):=bNw hbr _
 cases n with
 | zero =>
  refine (sort_none _ _ _ _).mono ?_
  rintro e w' ⟨he,hw⟩
  refine⟨he,by rw[hw];exact hb2,Reads.of_row (by rw[allZ_length,hl]) (by omega) (allZ_wf xs (by omega)) fun i hi=>by omega⟩
 | succ m =>
  obtain⟨x,rfl⟩:=h0.some_ (by omega)
  have hx:x.block<w.heap.size:=by
   have:=World.block_lt_of_cell? _ _ (h0.cell x rfl 0 (by omega))
   rwa [add_block] at this
  refine (sort_some xs m wr.heap.size w.heap.size (m+1) x c0 _ (by simp) (h0.below hb2) (by omega) (by omega) (fun j hj=>?_) (by have:=hb2.size;simp;omega) hsz).mono ?_
  ·obtain⟨h1,h2⟩:=hp j hj
   have hlt:w.heap.size<wr.heap.size:=hB
   refine⟨?_,?_⟩
   ·exact below_cell (bNw (Below.refl _ _) _) h1
   ·rw[←h2]
    exact (bNw (Below.refl wr.heap.size wr) _).frozen hlt
  ·rintro e w' ⟨he,hb,hc⟩
   refine⟨he,⟨hb.os.trans hb2.os,hb.tape.trans hb2.tape,hb.output.trans hb2.output,Nat.le_trans hb2.size hb.size,fun k hk=>(hb.block k hk).trans (hb2.block k hk)⟩,Reads.of_row (by rw[allZ_length,hl]) (by omega) (allZ_wf xs (by omega)) fun i hi=>?_⟩
   rw[allZ_at xs i (by omega),←hc i hi]
   congr 1
   simp[Addr.add]
   intro h;exact h.symm
theorem clone_call (x:Addr)(m c:Nat)(zs:List Int)(w:World)(h0:Reads .i64 w (some x) m zs)(hb:m*8≤140737488355328) :
  Calls Tryz.prog 164 #[.slice (some x) m c] w fun e w'=>(∃ a c,e=.returned (.slice a m c)∧Reads .i64 w' a m zs∧(a=none→c=0)∧m≤c)∧Below w.heap.size w w':=by
 obtain⟨i0,hi,hz0,hz1,hz2⟩:=info_parts info3
 have hm:=h0.max
 have hb0:=Below.refl w.heap.size w
 have q25:∀ (w:World) (a:Option Addr) (n c n' c':Nat),(binOp .eql 25 (.slice a n c) (.slice none n' c')).run Tryz.prog w=.ok (.bool a.isNone) w:=fun w a n c n' c'=>Lib.run_eql_slice_nil w _ _ a n c n' c' Tryz.underlying25
 go_enter Tryz.func164,Tryz.ntmps164
 go_wp2_with (first
  | (at_builtin;refine wpList_copy rfl (.tmp 5) (.tmp 6) 25 rfl w.heap.size 3 i0 (.int .i64 0) 8 Tryz.underlying25 hi hz0 hz1 hz2 rfl _ 0 [] rfl (World.ownsRow_lit _ #[] 0 hb0.size (by decide) rfl) .i64 (some x) m c zs rfl (h0.below (bNw hb0 _)) (fun h=>by cases h) (by unfold maxLen;omega) (by omega) (bNw hb0 _).size ?_;intro v1 W1 ho1 hg1;obtain⟨p1,q1,rfl,r1,hb1,e1,l1⟩:=copied hb0 _ ho1 hg1 h0;clear ho1 hg1))
 go_ret
 exact⟨⟨_,_,rfl,r1,e1,l1⟩,hb1⟩
theorem top_none (a0:Option Addr)(n c0:Nat)(k:Int)(w:World)(hk:k<1) :
  Calls Tryz.prog 124 #[.slice a0 n c0,.int .i64 k] w fun e w'=>e=.returned (.slice none 0 0)∧w'=w:=by
 go_enter Tryz.func124,Tryz.ntmps124
 go_wp2_with fail
 go_ret
 exact⟨rfl,rfl⟩
theorem top_some (a0:Option Addr)(n c0:Nat)(xs:List Int)(k:Int)(w:World)(h0:Reads .i64 w a0 n xs)(hk:1≤k)(hb:n*8≤140737488355328) :
  Calls Tryz.prog 124 #[.slice a0 n c0,.int .i64 k] w fun e w'=>(∃ a c,e=.returned (.slice a (min k.toNat n) c)∧Reads .i64 w' a (min k.toNat n) (pickZ xs k)∧(a=none→c=0)∧min k.toNat n≤c)∧Below w.heap.size w w':=by
 obtain⟨i0,hi,hz0,hz1,hz2⟩:=info_parts info3
 have hm:=h0.max
 have hl:=h0.len
 have hk':¬k<1:=by omega
 obtain⟨K,eK⟩:∃ K:Nat,k=K:=⟨k.toNat,by omega⟩
 subst eK
 rw[topZ_all,Int.toNat_natCast,show (allZ xs).take K=(allZ xs).take (min K n) by rw[show n=(allZ xs).length by rw[allZ_length];omega,←List.take_eq_take_min]]
 obtain⟨M,eM⟩:∃ M,min K n=M:=⟨_,rfl⟩
 rw[eM]
 go_enter Tryz.func124,Tryz.ntmps124
 go_wp2_with (first
  | (at_make;refine wpList_make_full _ rfl (.tmp 10) (.tmp 10) 25 rfl w.heap.size 3 i0 (.int .i64 0) 1 Tryz.underlying25 hi hz0 hz1 .i64 .i64 _ _ n rfl rfl rfl rfl (by rw[hz2];omega) (by unfold maxLen;omega) (Nat.le_refl _) ?_;intro w1 hown hgrow))
 have hbel:Below w.heap.size w w1:=(Below.refl _ _).grown hgrow (Nat.le_refl _) (fun k h=>by cases h)
 go_wp2
 go_loopw [14] (fun i wr=>∃ q:Nat,q≤n∧i=.int .i64 q∧Below w.heap.size w wr∧∃ cs,wr.ownsRow w.heap.size 3 1 (.slice (some ⟨w.heap.size,0,none⟩) n n) n cs∧∀ j,j<q→cs[j]? = some (.int .i64 (j:Nat))) (fun i _=>n-(intOf i).toNat)
 case atStart=>exact⟨0,Nat.zero_le _,rfl,hbel,_,hown,fun j hj=>by omega⟩
 case round =>
  obtain⟨q,hq,rfl,hbr,cs,ho,hcs⟩:=hrel
  by_cases hlt:q<n
  ·have hlen:=oLe ho
   have cell:wr.cell? ⟨w.heap.size,q,none⟩=cs[q]?:=ho.cellAt q (by omega)
   obtain⟨u,hu⟩:∃ u,cs[q]? = some u:=⟨cs[q],by simp[hlen,hlt]⟩
   rw[hu] at cell
   have froz:=ho.frozenAt q
   have R:Hid (Below w.heap.size w (wr.setCell ⟨w.heap.size,q,none⟩ (.int .i64 (q:Nat)))∧∃ cs',(wr.setCell ⟨w.heap.size,q,none⟩ (.int .i64 (q:Nat))).ownsRow w.heap.size 3 1 (.slice (some ⟨w.heap.size,0,none⟩) n n) n cs'∧∀ j,j<q+1→cs'[j]? = some (.int .i64 (j:Nat))) :=
    ⟨hbr.setCell (Nat.le_refl _) _,_,(ho.stored q _).1,set_step (F:=fun j=>Value.int .i64 (j:Nat)) hlen hlt rfl hcs⟩
   clear hcs ho hu hlen hbr
   go_wp2
   go_roundw
   case rel=>exact⟨q+1,by omega,by go_num,R.out⟩
   case measure=>simp[intOf];omega
  ·have e:q=n:=by omega
   subst e
   have hlen:=oLe ho
   have ks:=sort_row q xs a0 c0 w wr h0 hbr (fun j hj=>⟨(ho.cellAt j (by omega)).trans (hcs j hj),ho.frozenAt j⟩) (ho.lt w.heap.size rfl).2 (by omega)
   have kc:=fun (m c:Nat) (hm:m≤q) (W:World) (r:Reads .i64 W (some ⟨w.heap.size,0,none⟩) q (allZ xs))=>clone_call ⟨w.heap.size,0,none⟩ m c ((allZ xs).take m) W (by have:=r.cut 0 m (by omega);simpa [Addr.add] using this) (by omega)
   clear hcs ho hlen hown hgrow hbel hi hz0 hz1 hz2 h0
   have eT:(min (K:Int) (q:Int)).toNat=M:=by omega
   have hM:M≤q:=by omega
   clear eM
   go_wp2_with (first
    | (go_at_call 122;refine (order_call _ _ _ _).mono ?_;rintro e W1 ⟨rfl,rfl⟩)
    | (go_at_call 163;refine ks.mono ?_;rintro e W2 ⟨rfl,hb2,r2⟩)
    | (go_at_call 164;refine (kc _ _ (by first|omega|assumption) _ r2).mono ?_;rintro e W3 ⟨⟨p3,c3,rfl,r3,e3,l3⟩,hb3⟩))
   go_ret
   exact⟨⟨_,_,rfl,r3,e3,l3⟩,bTn hb2 hb3⟩
theorem top_call (a0:Option Addr)(n c0:Nat)(xs:List Int)(k:Int)(w:World)(h0:Reads .i64 w a0 n xs)(hb:n*8≤140737488355328) :
  Calls Tryz.prog 124 #[.slice a0 n c0,.int .i64 k] w fun e w'=>(∃ a c,e=.returned (.slice a (min k.toNat n) c)∧Reads .i64 w' a (min k.toNat n) (pickZ xs k)∧(a=none→c=0)∧min k.toNat n≤c)∧Below w.heap.size w w':=by
 by_cases h:k<1
 ·have e:k.toNat=0:=by omega
  have e2:pickZ xs k=[]:=by unfold pickZ;rw[e];simp
  rw[e2,e,Nat.zero_min]
  exact (top_none a0 n c0 k w h).mono fun e w' ⟨he,hw⟩=>⟨⟨_,_,he,Reads.nil _ _,fun _=>rfl,Nat.le_refl _⟩,hw ▸ Below.refl _ _⟩
 ·exact top_some a0 n c0 xs k w h0 (by omega) hb
theorem own_none {w:World}{B:Nat}{e:TypeId}{a:Option Addr}{n m c:Nat}{cs:List Value}(h:w.ownsRow B e 1 (.slice a n c) m cs):a=none→c=0:=by
 intro ha
 subst ha
 rcases h.2 with⟨h,_⟩|⟨g,cap,cur,h,_⟩
 ·simp only[Value.slice.injEq] at h
  exact h.2.2
 ·simp at h
theorem grow_call (n:Nat)(h0:0<n)(h1:n≤1000)(w:World) :
  Calls Tryz.prog 155 #[.slice none 0 0,.int .i64 n] w fun e w'=>∃ g c,e=.returned (.slice (some ⟨g,0,none⟩) 0 c)∧n≤c∧w'.ownsRow w.heap.size 3 1 (.slice (some ⟨g,0,none⟩) 0 c) 0 []∧Below w.heap.size w w':=by
 obtain⟨i0,hi,hz0,hz1,hz2⟩:=info_parts info3
 have hr:=Lib.run_append_nil_zeros (P:=Tryz.prog) w 25 3 25 3 i0 (.int .i64 0) .i64 .i64 Tryz.underlying25 Tryz.underlying3 hi hz0 n h0 (by omega) (by omega) (by rw[hz2];omega)
 have hge:=grownCap_ge w n 0 3
 have hle:=grownCap_le_maxLen w n 0 3 (by unfold maxLen;omega)
 obtain⟨C,hC⟩:∃ C,grownCap w n 0 3=C:=⟨_,rfl⟩
 rw[hC] at hr hge hle
 obtain⟨o,ho⟩:∃ o,Obj.cells (Builtin.zeroCells (Value.int .i64 0).cells n++Builtin.zeroCells (Value.int .i64 0).cells (C-n)) 3=o:=⟨_,rfl⟩
 rw[ho] at hr
 have own:(w.drew.alloc o).ownsRow w.heap.size 3 1 (.slice (some ⟨w.heap.size,0,none⟩) 0 C) 0 []:=by
  refine⟨rfl,.inr ⟨w.heap.size,C,Builtin.zeroCells (Value.int .i64 0).cells n++Builtin.zeroCells (Value.int .i64 0).cells (C-n),rfl,Nat.le_refl _,?_,Nat.zero_le _,hle,?_,rfl⟩⟩
  ·rw[←ho]
   exact heap_alloc_new w.drew _
  ·simp[Builtin.zeroCells,Value.cells]
   omega
 have hb:Below w.heap.size w (w.drew.alloc o):=bNw (bDr (Below.refl _ w) ⟨1,rfl⟩) o
 have hn':¬((n:Int)<0):=by omega
 have hn2:(0:Int)<(n:Int):=by omega
 clear hC ho
 go_enter Tryz.func155,Tryz.ntmps155
 go_wp2_with (at_builtin;refine Lib.wpList_append_run _ rfl (.tmp 20) (.tmp 21) 25 3 rfl _ _ rfl rfl _ _ hr ?_)
 go_ret
 exact⟨_,_,rfl,hge,own,hb⟩
theorem concat_call (g:Nat)(c:Nat)(a1:Option Addr)(n1 c1:Nat)(xs:List Int)(a2:Option Addr)(n2 c2:Nat)(ys:List Int)(w:World)(h1:Reads .i64 w a1 n1 xs)(h2:Reads .i64 w a2 n2 ys)(e1:a1=none→c1=0)(e2:a2=none→c2=0)
  (k1:w.cell? ⟨g,0,none⟩=some (.slice a1 n1 c1)) (k2:w.cell? ⟨g,1,none⟩=some (.slice a2 n2 c2)) (b0:0<n1) (b1:n1+n2≤1000) :
  Calls Tryz.prog 120 #[.slice (some ⟨g,0,none⟩) 2 c] w fun e w'=>(∃ a c,e=.returned (.slice a (n1+n2) c)∧Reads .i64 w' a (n1+n2) (xs++ys))∧Below w.heap.size w w':=by
 obtain⟨i0,hi,hz0,hz1,hz2⟩:=info_parts info3
 have l1:=h1.len
 have l2:=h2.len
 have s0:IntKind.i64.wrap (n1:Int)=(n1:Int):=by rw[IntKind.wrap_i64];omega
 obtain⟨S,hS⟩:∃ S:Nat,n1+n2=S:=⟨_,rfl⟩
 have s1:(n1:Int)+(n2:Int)=(S:Int):=by omega
 have s2:IntKind.i64.wrap (S:Int)=(S:Int):=by rw[IntKind.wrap_i64];omega
 have kg:=grow_call S (by omega) (by omega) w
 go_enter Tryz.func120,Tryz.ntmps120
 go_wp2
 go_loopw [3,11] (fun s i wr=>wr=w∧((i=.int .i64 0∧s=.int .i64 0)∨(i=.int .i64 1∧s=.int .i64 n1)∨(i=.int .i64 2∧s=.int .i64 S))) (fun _ i _=>2-(intOf i).toNat)
 case atStart=>exact⟨rfl,.inl ⟨rfl,rfl⟩⟩
 case round =>
  obtain⟨hw,⟨rfl,rfl⟩|⟨rfl,rfl⟩|⟨rfl,rfl⟩⟩:=hrel
  ·subst hw
   clear kg
   go_wp2
   go_roundw
   case rel=>exact⟨trivial,.inr (.inl ⟨rfl,rfl⟩)⟩
   case measure=>simp[intOf]
  ·subst hw
   clear kg
   go_wp2
   go_roundw
   case rel=>exact⟨trivial,.inr (.inr ⟨rfl,rfl⟩)⟩
   case measure=>simp[intOf]
  ·subst hw
   go_wp2_with (go_at_call 155;refine kg.mono ?_;rintro e W1 ⟨g1,c1',rfl,hc1,ho1,hb1⟩)
   clear kg
   rename World=>wa
   have HB:=hdn hb1
   have ho1':wa.ownsRow wr.heap.size 3 1 (.slice (some ⟨g1,0,none⟩) 0 c1') 0 []:=ho1
   clear ho1 hb1
   go_loopw [6,27] (fun v i wz=>Below wr.heap.size wr wz∧((i=.int .i64 0∧wz.ownsRow wr.heap.size 3 1 v 0 [])∨(i=.int .i64 1∧wz.ownsRow wr.heap.size 3 1 v n1 (xs.map (Value.int .i64)))∨(i=.int .i64 2∧wz.ownsRow wr.heap.size 3 1 v S ((xs++ys).map (Value.int .i64))))) (fun _ i _=>2-(intOf i).toNat)
   case atStart=>exact⟨HB.out,.inl ⟨rfl,ho1'⟩⟩
   case round =>
    clear ho1'
    rename World=>wz
    obtain⟨hbz,⟨rfl,ho⟩|⟨rfl,ho⟩|⟨rfl,ho⟩⟩:=hrel
    ·have k1z:=(hbz.cell (World.block_lt_of_cell? wr _ k1)).trans k1
     have r1:=h1.below hbz
     go_wp2_with (at_builtin;refine wpList_copy rfl (.tmp 31) (.tmp 32) 25 rfl wr.heap.size 3 i0 (.int .i64 0) 8 Tryz.underlying25 hi hz0 hz1 hz2 rfl _ 0 [] rfl ho .i64 a1 n1 c1 xs rfl r1 e1 (by unfold maxLen;omega) (by omega) hbz.size ?_;intro v1 W1 ho2 hg2;have R:=And.intro (below_append hbz ho hg2) ho2;rw[Nat.zero_add,List.nil_append] at R;clear ho2 hg2 ho r1 k1z hbz)
     go_roundw
     case rel=>exact⟨R.1,.inr (.inl ⟨rfl,R.2⟩)⟩
     case measure=>simp[intOf]
    ·have k2z:=(hbz.cell (World.block_lt_of_cell? wr _ k2)).trans k2
     have r2:=h2.below hbz
     go_wp2_with (at_builtin;refine wpList_copy rfl (.tmp 31) (.tmp 32) 25 rfl wr.heap.size 3 i0 (.int .i64 0) 8 Tryz.underlying25 hi hz0 hz1 hz2 rfl _ n1 _ rfl ho .i64 a2 n2 c2 ys rfl r2 e2 (by unfold maxLen;omega) (by omega) hbz.size ?_;intro v1 W1 ho2 hg2;have R:=And.intro (below_append hbz ho hg2) ho2;rw[hS,←List.map_append] at R;clear ho2 hg2 ho r2 k2z hbz)
     go_roundw
     case rel=>exact⟨R.1,.inr (.inr ⟨rfl,R.2⟩)⟩
     case measure=>simp[intOf]
    ·obtain⟨a,c',rfl,r⟩:=oRe (k:=.i64) (zs:=xs++ys) ho (by rw[List.length_append];omega) (fun z hz=>by
      rcases List.mem_append.1 hz with h|h
      ·exact h1.wf_mem z h
      ·exact h2.wf_mem z h) (fun j hj=>copy_at .i64 _ j (by rw[List.length_append];omega))
     have R:=hdn (And.intro r hbz)
     clear r hbz ho
     go_wp2
     go_ret
     exact⟨⟨a,c',by rw[hS];rfl,by rw[hS];exact R.out.1⟩,R.out.2⟩
end Go.Proofs.YtbkjhfmehemgpaaGreat

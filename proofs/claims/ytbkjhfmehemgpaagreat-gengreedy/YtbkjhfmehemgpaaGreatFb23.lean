/- Texts put together. -/
import Derived.Test.YtbkjhfmehemgpaaGreatFb9
import Derived.Test.YtbkjhfmehemgpaaGreatFb10
import Derived.Laws.OwnMore
import Derived.Maps.AppendAt
namespace Go.Proofs.YtbkjhfmehemgpaaGreat
set_option maxRecDepth 20000
set_option maxHeartbeats 16000000
open Go.ChangeShapes Go.WideShapes Go.ChangeAt Go.RowKit
set_option linter.unusedVariables false
set_option linter.unusedSimpArgs false
abbrev nilS:Value:=.slice none 0 0
theorem info61:(Tryz.prog.info? 61).map (fun i=>(i.zero,i.size,i.bytes))=some (some (.agg #[nilS,nilS,nilS,nilS,nilS,nilS,nilS,nilS,nilS]),9,216):=by kernel_rfl
theorem info31:(Tryz.prog.info? 31).map (fun i=>(i.zero,i.size,i.bytes))=some (some nilS,1,24):=by kernel_rfl
theorem networks_call (d h l v u x t n:Int)(w:World):Calls Tryz.prog 105 #[.agg #[.int .i64 d,.int .i64 h,.int .i64 l,.int .i64 v,.int .i64 u,.int .i64 x,.int .i64 t,.int .i64 n]] w fun e w'=>e=.returned (.int .i64 (max x 1))∧∃ o,w'=w.alloc o:=by
 rcases Int.lt_trichotomy x 1 with h0|rfl|h0
 ·rw[show max x 1=1 by omega]
  go_enter Tryz.func105,Tryz.ntmps105
  go_wp2
  go_ret
  exact⟨rfl,_,rfl⟩
 ·go_enter Tryz.func105,Tryz.ntmps105
  go_wp2
  go_ret
  exact⟨rfl,_,rfl⟩
 ·rw[show max x 1=x by omega]
  go_enter Tryz.func105,Tryz.ntmps105
  go_wp2
  go_ret
  exact⟨rfl,_,rfl⟩
theorem Blk.new_at (t:TypeId)(w:World)(cs:Array Value)(g:Nat)(hg:g=w.heap.size):Blk t (w.alloc (.cells cs t)) g cs:=by
 subst hg
 exact Blk.new t w cs
theorem set12 {t:TypeId}{W:World}{b:Nat}{x0 x1 x2 x3 x4 x5 x6 x7 x8 x9 x10 x11:Value}(h:Blk t W b #[x0,x1,x2,x3,x4,x5,x6,x7,x8,x9,x10,x11])(v0 v1 v2 v3 v4 v5 v6 v7 v8 v9 v10 v11:Value) :
  ∃ W',((((((((((((W.setCell ⟨b,0,none⟩ v0).setCell ⟨b,1,none⟩ v1).setCell ⟨b,2,none⟩ v2).setCell ⟨b,3,none⟩ v3).setCell ⟨b,4,none⟩ v4).setCell ⟨b,5,none⟩ v5).setCell ⟨b,6,none⟩ v6).setCell ⟨b,7,none⟩ v7).setCell ⟨b,8,none⟩ v8).setCell ⟨b,9,none⟩ v9).setCell ⟨b,10,none⟩ v10).setCell ⟨b,11,none⟩ v11)=W'∧Blk t W' b #[v0,v1,v2,v3,v4,v5,v6,v7,v8,v9,v10,v11]∧Only b W W'∧W'.heap.size=W.heap.size:=by
 have z0:W.heap.size=W.heap.size:=rfl
 have s1:Blk t (W.setCell ⟨b,0,none⟩ v0) b #[v0,x1,x2,x3,x4,x5,x6,x7,x8,x9,x10,x11]:=h.set 0 v0
 have n1:=(Only.set b 0 W v0)
 have z1:(W.setCell ⟨b,0,none⟩ v0).heap.size=W.heap.size:=(by simp[World.setCell]:_=W.heap.size).trans z0
 obtain⟨W1,e1⟩:∃ W1,W.setCell ⟨b,0,none⟩ v0=W1:=⟨_,rfl⟩
 rw[e1] at s1 n1 z1 ⊢
 have s2:Blk t (W1.setCell ⟨b,1,none⟩ v1) b #[v0,v1,x2,x3,x4,x5,x6,x7,x8,x9,x10,x11]:=s1.set 1 v1
 have n2:=n1.trans (Only.set b 1 W1 v1)
 have z2:(W1.setCell ⟨b,1,none⟩ v1).heap.size=W.heap.size:=(by simp[World.setCell]:_=W1.heap.size).trans z1
 obtain⟨W2,e2⟩:∃ W2,W1.setCell ⟨b,1,none⟩ v1=W2:=⟨_,rfl⟩
 rw[e2] at s2 n2 z2 ⊢
 have s3:Blk t (W2.setCell ⟨b,2,none⟩ v2) b #[v0,v1,v2,x3,x4,x5,x6,x7,x8,x9,x10,x11]:=s2.set 2 v2
 have n3:=n2.trans (Only.set b 2 W2 v2)
 have z3:(W2.setCell ⟨b,2,none⟩ v2).heap.size=W.heap.size:=(by simp[World.setCell]:_=W2.heap.size).trans z2
 obtain⟨W3,e3⟩:∃ W3,W2.setCell ⟨b,2,none⟩ v2=W3:=⟨_,rfl⟩
 rw[e3] at s3 n3 z3 ⊢
 have s4:Blk t (W3.setCell ⟨b,3,none⟩ v3) b #[v0,v1,v2,v3,x4,x5,x6,x7,x8,x9,x10,x11]:=s3.set 3 v3
 have n4:=n3.trans (Only.set b 3 W3 v3)
 have z4:(W3.setCell ⟨b,3,none⟩ v3).heap.size=W.heap.size:=(by simp[World.setCell]:_=W3.heap.size).trans z3
 obtain⟨W4,e4⟩:∃ W4,W3.setCell ⟨b,3,none⟩ v3=W4:=⟨_,rfl⟩
 rw[e4] at s4 n4 z4 ⊢
 have s5:Blk t (W4.setCell ⟨b,4,none⟩ v4) b #[v0,v1,v2,v3,v4,x5,x6,x7,x8,x9,x10,x11]:=s4.set 4 v4
 have n5:=n4.trans (Only.set b 4 W4 v4)
 have z5:(W4.setCell ⟨b,4,none⟩ v4).heap.size=W.heap.size:=(by simp[World.setCell]:_=W4.heap.size).trans z4
 obtain⟨W5,e5⟩:∃ W5,W4.setCell ⟨b,4,none⟩ v4=W5:=⟨_,rfl⟩
 rw[e5] at s5 n5 z5 ⊢
 have s6:Blk t (W5.setCell ⟨b,5,none⟩ v5) b #[v0,v1,v2,v3,v4,v5,x6,x7,x8,x9,x10,x11]:=s5.set 5 v5
 have n6:=n5.trans (Only.set b 5 W5 v5)
 have z6:(W5.setCell ⟨b,5,none⟩ v5).heap.size=W.heap.size:=(by simp[World.setCell]:_=W5.heap.size).trans z5
 obtain⟨W6,e6⟩:∃ W6,W5.setCell ⟨b,5,none⟩ v5=W6:=⟨_,rfl⟩
 rw[e6] at s6 n6 z6 ⊢
 have s7:Blk t (W6.setCell ⟨b,6,none⟩ v6) b #[v0,v1,v2,v3,v4,v5,v6,x7,x8,x9,x10,x11]:=s6.set 6 v6
 have n7:=n6.trans (Only.set b 6 W6 v6)
 have z7:(W6.setCell ⟨b,6,none⟩ v6).heap.size=W.heap.size:=(by simp[World.setCell]:_=W6.heap.size).trans z6
 obtain⟨W7,e7⟩:∃ W7,W6.setCell ⟨b,6,none⟩ v6=W7:=⟨_,rfl⟩
 rw[e7] at s7 n7 z7 ⊢
 have s8:Blk t (W7.setCell ⟨b,7,none⟩ v7) b #[v0,v1,v2,v3,v4,v5,v6,v7,x8,x9,x10,x11]:=s7.set 7 v7
 have n8:=n7.trans (Only.set b 7 W7 v7)
 have z8:(W7.setCell ⟨b,7,none⟩ v7).heap.size=W.heap.size:=(by simp[World.setCell]:_=W7.heap.size).trans z7
 obtain⟨W8,e8⟩:∃ W8,W7.setCell ⟨b,7,none⟩ v7=W8:=⟨_,rfl⟩
 rw[e8] at s8 n8 z8 ⊢
 have s9:Blk t (W8.setCell ⟨b,8,none⟩ v8) b #[v0,v1,v2,v3,v4,v5,v6,v7,v8,x9,x10,x11]:=s8.set 8 v8
 have n9:=n8.trans (Only.set b 8 W8 v8)
 have z9:(W8.setCell ⟨b,8,none⟩ v8).heap.size=W.heap.size:=(by simp[World.setCell]:_=W8.heap.size).trans z8
 obtain⟨W9,e9⟩:∃ W9,W8.setCell ⟨b,8,none⟩ v8=W9:=⟨_,rfl⟩
 rw[e9] at s9 n9 z9 ⊢
 have s10:Blk t (W9.setCell ⟨b,9,none⟩ v9) b #[v0,v1,v2,v3,v4,v5,v6,v7,v8,v9,x10,x11]:=s9.set 9 v9
 have n10:=n9.trans (Only.set b 9 W9 v9)
 have z10:(W9.setCell ⟨b,9,none⟩ v9).heap.size=W.heap.size:=(by simp[World.setCell]:_=W9.heap.size).trans z9
 obtain⟨W10,e10⟩:∃ W10,W9.setCell ⟨b,9,none⟩ v9=W10:=⟨_,rfl⟩
 rw[e10] at s10 n10 z10 ⊢
 have s11:Blk t (W10.setCell ⟨b,10,none⟩ v10) b #[v0,v1,v2,v3,v4,v5,v6,v7,v8,v9,v10,x11]:=s10.set 10 v10
 have n11:=n10.trans (Only.set b 10 W10 v10)
 have z11:(W10.setCell ⟨b,10,none⟩ v10).heap.size=W.heap.size:=(by simp[World.setCell]:_=W10.heap.size).trans z10
 obtain⟨W11,e11⟩:∃ W11,W10.setCell ⟨b,10,none⟩ v10=W11:=⟨_,rfl⟩
 rw[e11] at s11 n11 z11 ⊢
 have s12:Blk t (W11.setCell ⟨b,11,none⟩ v11) b #[v0,v1,v2,v3,v4,v5,v6,v7,v8,v9,v10,v11]:=s11.set 11 v11
 have n12:=n11.trans (Only.set b 11 W11 v11)
 have z12:(W11.setCell ⟨b,11,none⟩ v11).heap.size=W.heap.size:=(by simp[World.setCell]:_=W11.heap.size).trans z11
 obtain⟨W12,e12⟩:∃ W12,W11.setCell ⟨b,11,none⟩ v11=W12:=⟨_,rfl⟩
 rw[e12] at s12 n12 z12 ⊢
 exact⟨_,rfl,s12,n12,z12⟩
def allL (q:List Int)(K V:Nat→List Int)(d n:Nat):Nat→List Int
 | 0=>[]
 | m+1=>allL q K V d n m++headZ ((q.drop (m*d)).take d) (cutR K (m*d) d) (cutR V (m*d) d) d n
theorem allL_length (q:List Int)(K V:Nat→List Int)(d n m:Nat):(allL q K V d n m).length=m*d:=by
 induction m with
 | zero=>simp[allL]
 | succ m ih=>rw[allL,List.length_append,ih,headZ_length,Nat.succ_mul]
theorem wf_allL (q:List Int)(K V:Nat→List Int)(d n m:Nat):∀ z∈allL q K V d n m,(Lit.int .i64 z).wf=true:=by
 induction m with
 | zero=>intro z hz;simp[allL] at hz
 | succ m ih =>
  intro z hz
  rw[allL,List.mem_append] at hz
  rcases hz with h|h
  ·exact ih z h
  ·exact wf_headZ _ _ _ _ _ z h
theorem part_room {H d m N:Nat}(e:H*d=N)(hm:m<H):m*d+d≤N:=by
 have h1:(m+1)*d≤H*d:=Nat.mul_le_mul_right d hm
 rw[Nat.succ_mul,e] at h1
 exact h1
theorem all_yes (x:Addr)(N c0 H:Nat)(q:List Int)(a1:Option Addr)(n c1:Nat)(A:Nat→Option Addr)(C:Nat→Nat)(K:Nat→List Int)(a2:Option Addr)(c2:Nat)(A':Nat→Option Addr)(C':Nat→Nat)(V:Nat→List Int)(w:World)
  (h0:Reads .i64 w (some x) N q) (l0:N≤c0) (h1:Grid w a1 n A C K) (hC:∀ r,r<n→(K r).length≤C r) (h2:Grid w a2 n A' C' V) (hC':∀ r,r<n→(V r).length≤C' r) (hH:0<H) (hN:0<N) (hn:0<n) (hmod:N%H=0) (hr:∀ r,r<n→(K r).length=N∧(V r).length=N)
  (hb0:N*8≤140737488355328) (hb1:n*24≤140737488355328) :
  Calls Tryz.prog 146 #[.slice (some x) N c0,.slice a1 n c1,.slice a2 n c2,.int .i64 H] w fun e w'=>(∃ a c,e=.returned (.tuple #[.slice a N c,.int .i64 0])∧Reads .i64 w' a N (allL q K V (N/H) n H)∧N≤c∧∀ x,a=some x→w.heap.size≤x.block)∧Below w.heap.size w w':=by
 obtain⟨i0,hi,hz0,hz1,hz2⟩:=info_parts info2
 have hm:=h0.max
 have kf:=fits_yes (some x) N c0 a1 n c1 A C K a2 c2 A' C' V w h1 h2 hN hn hr
 obtain⟨d,ed⟩:∃ d,N/H=d:=⟨_,rfl⟩
 have ed':(N:Int)/(H:Int)=(d:Int):=by rw[←ed];simp
 have er':(N:Int)%(H:Int)=0:=by omega
 have eH:H*d=N:=by rw[←ed,Nat.mul_comm];exact Nat.div_mul_cancel (Nat.dvd_of_mod_eq_zero hmod)
 rw[ed]
 have d0:0<d:=by
  rcases Nat.eq_zero_or_pos d with r|r
  ·subst r;simp at eH;omega
  ·exact r
 have hdn9q:d≤N:=by rw[←ed];exact Nat.div_le_self _ _
 clear ed hmod
 have z:((H:Int)==0)=false:=by simp;omega
 have hmf:∀ (fn:Fn) (first cap:Array Value) (w:World),(Instr.makeFunc fn first cap).run Tryz.prog w=.ok (.func fn first cap) w:=fun _ _ _ _=>rfl
 obtain⟨W0,hW0⟩:∃ W0,W0=w.alloc (.cells #[.int .i64 d] 3):=⟨_,rfl⟩
 have bw0:Below w.heap.size w W0:=by rw[hW0];exact bNw (Below.refl _ w) _
 have box:W0.cell? ⟨w.heap.size,0,none⟩=some (.int .i64 d):=by rw[hW0];exact cell_of_one (heap_alloc_new w _)
 go_enter Tryz.func146,Tryz.ntmps146
 go_wp2_with (first
  | (go_at_call 177;refine kf.mono ?_;rintro e w' ⟨rfl,h⟩;obtain rfl:=h.symm;clear kf)
  | (at_make;rw[←hW0];refine wpList_make_own _ rfl _ (.tmp 36) 70 rfl W0.heap.size 2 i0 (.int .i64 0) 1 Tryz.underlying70 hi hz0 hz1 .i64 .i64 _ N rfl rfl rfl (by rw[hz2];omega) (by unfold maxLen;omega) (Nat.le_refl _) ?_;intro w1 hown hgrow))
 have hbel:Below W0.heap.size W0 w1:=(Below.refl _ _).grown hgrow (Nat.le_refl _) (fun k h=>by cases h)
 have h0':=h0.below bw0
 have h1':=h1.below bw0
 have h2':=h2.below bw0
 have eS:W0.heap.size=w.heap.size+1:=by rw[hW0];simp
 clear hgrow h0 h1 h2 hW0
 obtain⟨B,eB⟩:∃ B,w.heap.size=B:=⟨_,rfl⟩
 rw[eB] at bw0 box eS ⊢
 have EB:Hid (w.heap.size=B):=eB
 have ES:Hid (W0.heap.size=B+1):=eS
 clear eB eS
 go_wp2
 go_loopw [12,13] (fun v i wr=>∃ k:Nat,k≤H∧i=.int .i64 ((k*d:Nat):Int)∧Below W0.heap.size W0 wr∧wr.ownsRow W0.heap.size 2 1 v (k*d) ((allL q K V d n k).map (Value.int .i64))) (fun _ i _=>N-(intOf i).toNat)
 case atStart=>exact⟨0,Nat.zero_le _,by simp,hbel,by have:=hown;rw[ES.out] at this ⊢;simpa [allL] using this⟩
 case round =>
  clear hown hbel
  obtain⟨k,hk,rfl,hbr,ho⟩:=hrel
  by_cases hlt:k<H
  ·have hq:=part_room eH hlt
   have hc:wr.cell? ⟨B,0,none⟩=some (.int .i64 d):=(hbr.cell (World.block_lt_of_cell? W0 _ box)).trans box
   have hr0:=(h0'.below hbr).cut (k*d) d hq
   have kp:=part_call x N c0 (k*d) d B wr d0 hq l0 hm hc
   have kk:=fun (W:World) (hb:Below W0.heap.size W0 W)=>cutEach_call a1 n c1 A C K (k*d) d B W (h1'.below hb) hC d0 (fun r h=>by rw[(hr r h).1];exact hq) ((hb.cell (World.block_lt_of_cell? W0 _ box)).trans box) hb1
   have kv:=fun (W:World) (hb:Below W0.heap.size W0 W)=>cutEach_call a2 n c2 A' C' V (k*d) d B W (h2'.below hb) hC' d0 (fun r h=>by rw[(hr r h).2];exact hq) ((hb.cell (World.block_lt_of_cell? W0 _ box)).trans box) hb1
   have lk:∀ r,r<n→(cutR K (k*d) d r).length=d∧(cutR V (k*d) d r).length=d:=fun r h=>⟨cutR_length _ _ _ _ (by rw[(hr r h).1];exact hq),cutR_length _ _ _ _ (by rw[(hr r h).2];exact hq)⟩
   have es:allL q K V d n (k+1)=allL q K V d n k++headZ ((q.drop (k*d)).take d) (cutR K (k*d) d) (cutR V (k*d) d) d n:=rfl
   have ek:(k+1)*d=k*d+d:=Nat.succ_mul k d
   obtain⟨qs,eq⟩:∃ qs,(q.drop (k*d)).take d=qs:=⟨_,rfl⟩
   rw[eq] at hr0 es
   obtain⟨P,eP⟩:∃ P,k*d=P:=⟨_,rfl⟩
   simp only[eP] at kk kv lk
   rw[eP] at hr0 hq ek ho es kp ⊢
   have kh:=fun (W:World) a b c e f (h0:Reads .i64 W a d qs) (h1:Grid W b n (cutA A P) (fun _=>d) (cutR K P d)) (h2:Grid W e n (cutA A' P) (fun _=>d) (cutR V P d))=>head_yes a d d qs b n c (cutA A P) (fun _=>d) (cutR K P d) e f (cutA A' P) (fun _=>d) (cutR V P d) W h0 h1 h2 d0 hn lk (by omega) (by omega)
   have Es:Hid (allL q K V d n (k+1)=allL q K V d n k++headZ qs (cutR K P d) (cutR V P d) d n):=es
   have Ek:Hid ((k+1)*d=P+d):=ek
   obtain⟨O,eO⟩:∃ O,headZ qs (cutR K P d) (cutR V P d) d n=O:=⟨_,rfl⟩
   rw[eO] at Es
   simp only[eO] at kh
   have hP:P<N:=by omega
   have Box:Hid (W0.cell? ⟨B,0,none⟩=some (.int .i64 d)):=box
   clear eq eP es ek eH hk eO lk hC hC' hr h0' h1' h2' box hc
   go_wp2_with (first
    | (go_at_call 178;refine kp.mono ?_;rintro e w' ⟨rfl,h⟩;obtain rfl:=h.symm;clear kp)
    | (go_at_call_of 180 (Value.slice a1 n c1);refine (kk _ hbr).mono ?_;rintro e W2 ⟨⟨x2,k2,rfl,g2⟩,b2⟩;have hbr2:=bTn hbr b2;clear kk)
    | (go_at_call_of 180 (Value.slice a2 n c2);refine (kv _ hbr2).mono ?_;rintro e W3 ⟨⟨x3,k3,rfl,g3⟩,b3⟩;replace g2:=g2.below b3;have hbr3:=bTn hbr2 b3;have b23:=bTn b2 b3;clear kv b3 b2 hbr2)
    | (go_at_call 179;refine (kh _ _ _ _ _ _ (hr0.below b23) g2 g3).mono ?_;rintro e W4 ⟨⟨p4,q4,rfl,r4,n4⟩,b4⟩;replace b23:=bTn b23 b4;replace ho:=oBe ho b23;replace hbr:=bTn hbr b23;clear kh b4 b23 hbr3 hr0 g2 g3;have hsz:=hbr.size)
    | (at_builtin;refine wpList_copy rfl (.tmp 61) (.tmp 62) 70 rfl W0.heap.size 2 i0 (.int .i64 0) 8 Tryz.underlying70 hi hz0 hz1 hz2 rfl _ P _ rfl ho .i64 p4 d q4 _ rfl r4 n4 (by unfold maxLen;omega) (by omega) hsz ?_;intro v1 W5 ho3 hg3;have R:=And.intro (below_append hbr ho hg3) ho3;have hc5:W5.cell? ⟨B,0,none⟩=some (.int .i64 d):=(R.1.cell (World.block_lt_of_cell? W0 _ Box.out)).trans Box.out;clear ho3 hg3 ho))
   go_roundw
   case rel=>exact⟨k+1,by omega,by rw[Ek.out];congr 1,R.1,by rw[Ek.out,Es.out,List.map_append];exact R.2⟩
   case measure=>simp[intOf];omega
  ·have e:k=H:=by omega
   subst e
   rw[eH] at ho ⊢
   have fin:=oRe (zs:=allL q K V d n k) ho (by rw[allL_length,eH]) (wf_allL _ _ _ _ _ _) (fun j hj=>copy_at _ _ _ (by rw[allL_length,eH];exact hj))
   obtain⟨a,c,rfl,hr⟩:=fin
   have hn:=own_cap ho
   have fr:Hid (∀ x,a=some x→w.heap.size≤x.block):=fun x hx=>by
    have h1:=(ho.lt x.block (by rw[hx];rfl)).1
    have h2:=EB.out
    have h3:=ES.out
    omega
   have bw:Below w.heap.size w wr:=by rw[EB.out];exact bw0.trans (hbr.mono (by rw[ES.out];omega))
   clear ho
   go_wp2
   go_ret2
   exact⟨⟨_,_,rfl,hr,hn,fr.out⟩,bw⟩
def flat (F:Nat→List Value)(n:Nat):List Value:=(List.range n).flatMap F
theorem flat_succ (F:Nat→List Value)(n:Nat):flat F (n+1)=flat F n++F n:=by simp[flat,List.range_succ]
theorem flat_len {F:Nat→List Value}{k:Nat}(h:∀ r,(F r).length=k)(n:Nat):(flat F n).length=n*k:=by
 induction n with
 | zero=>simp[flat]
 | succ n ih=>rw[flat_succ,List.length_append,ih,h,Nat.add_mul,Nat.one_mul]
theorem flat_at {F:Nat→List Value}{k:Nat}(h:∀ r,(F r).length=k){n r f:Nat}(hr:r<n)(hf:f<k):(flat F n)[r*k+f]? = (F r)[f]?:=by
 induction n with
 | zero=>omega
 | succ n ih =>
  rw[flat_succ]
  by_cases e:r=n
  ·subst e
   rw[List.getElem?_append_right (by rw[flat_len h];omega),flat_len h,show r*k+f-r*k=f by omega]
  ·have h1:r*k+f<(flat F n).length:=by
    rw[flat_len h]
    have:=Nat.mul_le_mul_right k (show r+1≤n by omega)
    rw[Nat.add_mul,Nat.one_mul] at this
    omega
   rw[List.getElem?_append_left h1]
   exact ih (by omega)
structure BmAt (w:World) (a:Option Addr) (n:Nat) (A:Nat→Option Addr) (C:Nat→Nat) (L:Nat→Bm):Prop where
 max:n≤9223372036854775807
 some_:0<n→∃ x,a=some x
 cell:∀ x,a=some x→∀ r,r<n→w.cell? (x.add (r*3))=some (.slice (A r) (L r).t.length (C r))∧w.cell? ((x.add (r*3)).add 1)=some (.int .i64 (L r).s)∧w.cell? ((x.add (r*3)).add 2)=some (.bool (L r).f)
 row:∀ r,r<n→Reads .i64 w (A r) (L r).t.length (L r).t
 nil:∀ r,r<n→A r=none→C r=0
 wf:∀ r,r<n→(Lit.int .i64 (L r).s).wf=true
theorem BmAt.carry {w w':World}{a:Option Addr}{n:Nat}{A:Nat→Option Addr}{C:Nat→Nat}{L:Nat→Bm}(h:BmAt w a n A C L)(hc:∀ p v,w.cell? p=some v→w'.cell? p=some v):BmAt w' a n A C L :=
 ⟨h.max,h.some_,fun x hx r hr=>⟨hc _ _ (h.cell x hx r hr).1,hc _ _ (h.cell x hx r hr).2.1,hc _ _ (h.cell x hx r hr).2.2⟩,fun r hr=>(h.row r hr).carry hc,h.nil,h.wf⟩
theorem BmAt.below {w w':World}{a:Option Addr}{n:Nat}{A:Nat→Option Addr}{C:Nat→Nat}{L:Nat→Bm}(h:BmAt w a n A C L)(hb:Below w.heap.size w w'):BmAt w' a n A C L :=
 h.carry fun p v hp=>(hb.cell (World.block_lt_of_cell? w p hp)).trans hp
theorem BmAt.at3 {w:World}{x:Addr}{n:Nat}{A:Nat→Option Addr}{C:Nat→Nat}{L:Nat→Bm}(h:BmAt w (some x) n A C L){r:Nat}(hr:r<n) :
  ∃ y,x.add (r*3)=y∧w.cell? y=some (.slice (A r) (L r).t.length (C r))∧w.cell? ⟨y.block,y.off+1,none⟩=some (.int .i64 (L r).s)∧w.cell? ⟨y.block,y.off+2,none⟩=some (.bool (L r).f):=by
 obtain⟨d0,d1,d2⟩:=h.cell x rfl r hr
 obtain⟨y,ey⟩:∃ y,x.add (r*3)=y:=⟨_,rfl⟩
 rw[ey] at d0 d1 d2
 exact⟨y,ey,d0,d1,d2⟩
theorem info135:(Tryz.prog.info? 135).map (fun i=>(i.zero,i.size,i.bytes))=some (some (.agg #[.slice none 0 0,.int .i64 0,.bool false]),3,40):=by kernel_rfl
theorem info164:(Tryz.prog.info? 164).map (fun i=>(i.zero,i.size,i.bytes))=some (some (.agg #[.slice none 0 0,.int .i64 0,.bool false,.int .i64 0,.int .i64 0]),5,56):=by kernel_rfl
theorem own_below3 {w w':World}{B k:Nat}{e:TypeId}{v:Value}{n:Nat}{xs:List Value}(h:w.ownsRow B e k v n xs)(hb:Below w.heap.size w w'):w'.ownsRow B e k v n xs :=
 h.kept (row:=none) ⟨hb.os,hb.tape,hb.output,hb.size,fun k hk _=>hb.block k hk⟩ (by
  cases v.ownBlock with
  | none=>exact .inl rfl
  | some g=>exact .inr (fun e=>by cases e))
end Go.Proofs.YtbkjhfmehemgpaaGreat

/- Texts put together. -/
import Derived.Test.YthliomlmhfjhnaaGreatZs8
import Derived.Test.YthliomlmhfjhnaaGreatZs2
namespace Go.Proofs.YthliomlmhfjhnaaGreat
set_option maxRecDepth 20000
set_option maxHeartbeats 16000000
open Go.ChangeShapes Go.WideShapes Go.ChangeAt Go.RowKit
set_option linter.unusedVariables false
set_option linter.unusedSimpArgs false
def allL (q:List Int)(K V:Nat→List Int)(d n:Nat):Nat→List Int
 | 0=>[]
 | m+1=>allL q K V d n m++headZ ((q.drop (m*d)).take d) (cutR K (m*d) d) (cutR V (m*d) d) d n
theorem allL_length (q:List Int)(K V:Nat→List Int)(d n m:Nat):(allL q K V d n m).length=m*d:=by
 induction m with
 | zero=>simp[allL]
 | succ m ih=>rw[allL,List.length_append,ih,headZ_length,Nat.succ_mul]
theorem wf_allL (q:List Int)(K V:Nat→List Int)(d n m:Nat):∀ z∈allL q K V d n m,(Lit.int .i64 z).wf=true:=by
 induction m with
 | zero=>intro z hz;simp[allL] at hz
 | succ m ih =>
  intro z hz
  rw[allL,List.mem_append] at hz
  rcases hz with h|h
  ·exact ih z h
  ·exact wf_headZ _ _ _ _ _ z h
theorem part_room {H d m N:Nat}(e:H*d=N)(hm:m<H):m*d+d≤N:=by
 have h1:(m+1)*d≤H*d:=Nat.mul_le_mul_right d hm
 rw[Nat.succ_mul,e] at h1
 exact h1
theorem all_yes (x:Addr)(N c0 H:Nat)(q:List Int)(a1:Option Addr)(n c1:Nat)(A:Nat→Option Addr)(C:Nat→Nat)(K:Nat→List Int)(a2:Option Addr)(c2:Nat)(A':Nat→Option Addr)(C':Nat→Nat)(V:Nat→List Int)(w:World)
  (h0:Reads .i64 w (some x) N q) (l0:N≤c0) (h1:Grid w a1 n A C K) (hC:∀ r,r<n→(K r).length≤C r) (h2:Grid w a2 n A' C' V) (hC':∀ r,r<n→(V r).length≤C' r) (hH:0<H) (hN:0<N) (hn:0<n) (hmod:N%H=0) (hr:∀ r,r<n→(K r).length=N∧(V r).length=N)
  (hb0:N*8≤140737488355328) (hb1:n*24≤140737488355328) :
  Calls Tryz.prog 62 #[.slice (some x) N c0,.slice a1 n c1,.slice a2 n c2,.int .i64 H] w fun e w'=>(∃ a c,e=.returned (.tuple #[.slice a N c,.int .i64 0])∧Reads .i64 w' a N (allL q K V (N/H) n H)∧N≤c∧∀ x,a=some x→w.heap.size≤x.block)∧Below w.heap.size w w':=by
 obtain⟨i0,hi,hz0,hz1,hz2⟩:=info_parts info2
 have hm:=h0.max
 have kf:=fits_yes (some x) N c0 a1 n c1 A C K a2 c2 A' C' V w h1 h2 hN hn hr
 obtain⟨d,ed⟩:∃ d,N/H=d:=⟨_,rfl⟩
 have ed':(N:Int)/(H:Int)=(d:Int):=by rw[←ed];simp
 have er':(N:Int)%(H:Int)=0:=by omega
 have eH:H*d=N:=by rw[←ed,Nat.mul_comm];exact Nat.div_mul_cancel (Nat.dvd_of_mod_eq_zero hmod)
 rw[ed]
 have d0:0<d:=by
  rcases Nat.eq_zero_or_pos d with r|r
  ·subst r;simp at eH;omega
  ·exact r
 have hdn9q:d≤N:=by rw[←ed];exact Nat.div_le_self _ _
 clear ed hmod
 have z:((H:Int)==0)=false:=by simp;omega
 have hmf:∀ (fn:Fn) (first cap:Array Value) (w:World),(Instr.makeFunc fn first cap).run Tryz.prog w=.ok (.func fn first cap) w:=fun _ _ _ _=>rfl
 obtain⟨W0,hW0⟩:∃ W0,W0=w.alloc (.cells #[.int .i64 d] 3):=⟨_,rfl⟩
 have bw0:Below w.heap.size w W0:=by rw[hW0];exact bNw (Below.refl _ w) _
 have box:W0.cell? ⟨w.heap.size,0,none⟩=some (.int .i64 d):=by rw[hW0];exact cell_of_one (heap_alloc_new w _)
 go_enter Tryz.func62,Tryz.ntmps62
 go_wp2_with (first
  | (go_at_call 96;refine kf.mono ?_;rintro e w' ⟨rfl,h⟩;obtain rfl:=h.symm;clear kf)
  | (at_make;rw[←hW0];refine wpList_make_own _ rfl _ (.tmp 36) 34 rfl W0.heap.size 2 i0 (.int .i64 0) 1 Tryz.underlying34 hi hz0 hz1 .i64 .i64 _ N rfl rfl rfl (by rw[hz2];omega) (by unfold maxLen;omega) (Nat.le_refl _) ?_;intro w1 hown hgrow))
 have hbel:Below W0.heap.size W0 w1:=(Below.refl _ _).grown hgrow (Nat.le_refl _) (fun k h=>by cases h)
 have h0':=h0.below bw0
 have h1':=h1.below bw0
 have h2':=h2.below bw0
 have eS:W0.heap.size=w.heap.size+1:=by rw[hW0];simp
 clear hgrow h0 h1 h2 hW0
 obtain⟨B,eB⟩:∃ B,w.heap.size=B:=⟨_,rfl⟩
 rw[eB] at bw0 box eS ⊢
 have EB:Hid (w.heap.size=B):=eB
 have ES:Hid (W0.heap.size=B+1):=eS
 clear eB eS
 go_wp2
 go_loopw [12,13] (fun v i wr=>∃ k:Nat,k≤H∧i=.int .i64 ((k*d:Nat):Int)∧Below W0.heap.size W0 wr∧wr.ownsRow W0.heap.size 2 1 v (k*d) ((allL q K V d n k).map (Value.int .i64))) (fun _ i _=>N-(intOf i).toNat)
 case atStart=>exact⟨0,Nat.zero_le _,by simp,hbel,by have:=hown;rw[ES.out] at this ⊢;simpa [allL] using this⟩
 case round =>
  clear hown hbel
  obtain⟨k,hk,rfl,hbr,ho⟩:=hrel
  by_cases hlt:k<H
  ·have hq:=part_room eH hlt
   have hc:wr.cell? ⟨B,0,none⟩=some (.int .i64 d):=(hbr.cell (World.block_lt_of_cell? W0 _ box)).trans box
   have hr0:=(h0'.below hbr).cut (k*d) d hq
   have kp:=part_call x N c0 (k*d) d B wr d0 hq l0 hm hc
   have kk:=fun (W:World) (hb:Below W0.heap.size W0 W)=>cutEach_call a1 n c1 A C K (k*d) d B W (h1'.below hb) hC d0 (fun r h=>by rw[(hr r h).1];exact hq) ((hb.cell (World.block_lt_of_cell? W0 _ box)).trans box) hb1
   have kv:=fun (W:World) (hb:Below W0.heap.size W0 W)=>cutEach_call a2 n c2 A' C' V (k*d) d B W (h2'.below hb) hC' d0 (fun r h=>by rw[(hr r h).2];exact hq) ((hb.cell (World.block_lt_of_cell? W0 _ box)).trans box) hb1
   have lk:∀ r,r<n→(cutR K (k*d) d r).length=d∧(cutR V (k*d) d r).length=d:=fun r h=>⟨cutR_length _ _ _ _ (by rw[(hr r h).1];exact hq),cutR_length _ _ _ _ (by rw[(hr r h).2];exact hq)⟩
   have es:allL q K V d n (k+1)=allL q K V d n k++headZ ((q.drop (k*d)).take d) (cutR K (k*d) d) (cutR V (k*d) d) d n:=rfl
   have ek:(k+1)*d=k*d+d:=Nat.succ_mul k d
   obtain⟨qs,eq⟩:∃ qs,(q.drop (k*d)).take d=qs:=⟨_,rfl⟩
   rw[eq] at hr0 es
   obtain⟨P,eP⟩:∃ P,k*d=P:=⟨_,rfl⟩
   simp only[eP] at kk kv lk
   rw[eP] at hr0 hq ek ho es kp ⊢
   have kh:=fun (W:World) a b c e f (h0:Reads .i64 W a d qs) (h1:Grid W b n (cutA A P) (fun _=>d) (cutR K P d)) (h2:Grid W e n (cutA A' P) (fun _=>d) (cutR V P d))=>head_yes a d d qs b n c (cutA A P) (fun _=>d) (cutR K P d) e f (cutA A' P) (fun _=>d) (cutR V P d) W h0 h1 h2 d0 hn lk (by omega) (by omega)
   have Es:Hid (allL q K V d n (k+1)=allL q K V d n k++headZ qs (cutR K P d) (cutR V P d) d n):=es
   have Ek:Hid ((k+1)*d=P+d):=ek
   obtain⟨O,eO⟩:∃ O,headZ qs (cutR K P d) (cutR V P d) d n=O:=⟨_,rfl⟩
   rw[eO] at Es
   simp only[eO] at kh
   have hP:P<N:=by omega
   have Box:Hid (W0.cell? ⟨B,0,none⟩=some (.int .i64 d)):=box
   clear eq eP es ek eH hk eO lk hC hC' hr h0' h1' h2' box hc
   go_wp2_with (first
    | (go_at_call 97;refine kp.mono ?_;rintro e w' ⟨rfl,h⟩;obtain rfl:=h.symm;clear kp)
    | (go_at_call_of 99 (Value.slice a1 n c1);refine (kk _ hbr).mono ?_;rintro e W2 ⟨⟨x2,k2,rfl,g2⟩,b2⟩;have hbr2:=bTn hbr b2;clear kk)
    | (go_at_call_of 99 (Value.slice a2 n c2);refine (kv _ hbr2).mono ?_;rintro e W3 ⟨⟨x3,k3,rfl,g3⟩,b3⟩;replace g2:=g2.below b3;have hbr3:=bTn hbr2 b3;have b23:=bTn b2 b3;clear kv b3 b2 hbr2)
    | (go_at_call 98;refine (kh _ _ _ _ _ _ (hr0.below b23) g2 g3).mono ?_;rintro e W4 ⟨⟨p4,q4,rfl,r4,n4⟩,b4⟩;replace b23:=bTn b23 b4;replace ho:=oBe ho b23;replace hbr:=bTn hbr b23;clear kh b4 b23 hbr3 hr0 g2 g3;have hsz:=hbr.size)
    | (at_builtin;refine wpList_copy rfl (.tmp 61) (.tmp 62) 34 rfl W0.heap.size 2 i0 (.int .i64 0) 8 Tryz.underlying34 hi hz0 hz1 hz2 rfl _ P _ rfl ho .i64 p4 d q4 _ rfl r4 n4 (by unfold maxLen;omega) (by omega) hsz ?_;intro v1 W5 ho3 hg3;have R:=And.intro (below_append hbr ho hg3) ho3;have hc5:W5.cell? ⟨B,0,none⟩=some (.int .i64 d):=(R.1.cell (World.block_lt_of_cell? W0 _ Box.out)).trans Box.out;clear ho3 hg3 ho))
   go_roundw
   case rel=>exact⟨k+1,by omega,by rw[Ek.out];congr 1,R.1,by rw[Ek.out,Es.out,List.map_append];exact R.2⟩
   case measure=>simp[intOf];omega
  ·have e:k=H:=by omega
   subst e
   rw[eH] at ho ⊢
   have fin:=oRe (zs:=allL q K V d n k) ho (by rw[allL_length,eH]) (wf_allL _ _ _ _ _ _) (fun j hj=>copy_at _ _ _ (by rw[allL_length,eH];exact hj))
   obtain⟨a,c,rfl,hr⟩:=fin
   have hn:=own_cap ho
   have fr:Hid (∀ x,a=some x→w.heap.size≤x.block):=fun x hx=>by
    have h1:=(ho.lt x.block (by rw[hx];rfl)).1
    have h2:=EB.out
    have h3:=ES.out
    omega
   have bw:Below w.heap.size w wr:=by rw[EB.out];exact bw0.trans (hbr.mono (by rw[ES.out];omega))
   clear ho
   go_wp2
   go_ret2
   exact⟨⟨_,_,rfl,hr,hn,fr.out⟩,bw⟩
def headsL (xs:List Int)(p:Int)(d:Nat):Nat→List Int
 | 0=>[]
 | m+1=>headsL xs p d m++turnZ ((xs.drop (m*d)).take d) p d
theorem turnZ_length (xs:List Int)(p:Int)(n:Nat):(turnZ xs p n).length=n:=by simp[turnZ]
theorem headsL_length (xs:List Int)(p:Int)(d m:Nat):(headsL xs p d m).length=m*d:=by
 induction m with
 | zero=>simp[headsL]
 | succ m ih=>rw[headsL,List.length_append,ih,turnZ_length,Nat.succ_mul]
theorem wf_turnZ (xs:List Int)(p:Int)(n:Nat):∀ z∈turnZ xs p n,(Lit.int .i64 z).wf=true:=fun z hz=>by
 obtain⟨y,_,rfl⟩:=List.mem_map.1 hz
 exact wf_turnF _ _ _
theorem wf_headsL (xs:List Int)(p:Int)(d m:Nat):∀ z∈headsL xs p d m,(Lit.int .i64 z).wf=true:=by
 induction m with
 | zero=>intro z hz;simp[headsL] at hz
 | succ m ih =>
  intro z hz
  rw[headsL,List.mem_append] at hz
  rcases hz with h|h
  ·exact ih z h
  ·exact wf_turnZ _ _ _ z h
theorem splits_call (n H:Nat)(hH:0<H)(hm:n≤9223372036854775807)(w:World) :
  Calls Tryz.prog 116 #[.int .i64 n,.int .i64 H] w fun e w'=>e=.returned (.bool (decide (n%H=0∧n/H%2=0)))∧w'=w:=by
 have z:((H:Int)==0)=false:=by simp;omega
 obtain⟨r,er⟩:∃ r,n%H=r:=⟨_,rfl⟩
 obtain⟨d,ed⟩:∃ d,n/H=d:=⟨_,rfl⟩
 have er':(n:Int)%(H:Int)=(r:Int):=by rw[←er];simp
 have ed':(n:Int)/(H:Int)=(d:Int):=by rw[←ed];simp
 have hd:d≤n:=by rw[←ed];exact Nat.div_le_self _ _
 rw[er,ed]
 clear er ed
 go_enter Tryz.func116,Tryz.ntmps116
 go_wp2
 ·have h:r=0:=by assumption
  go_ret
  refine⟨?_,rfl⟩
  by_cases e:d%2=0
  ·have e':((d:Int)%2==0)=true:=by simp;omega
   simp[h,e,e']
  ·have e':((d:Int)%2==0)=false:=by simp;omega
   simp[e,e']
 ·have h:¬r=0:=by assumption
  go_ret
  exact⟨by simp[h],rfl⟩
theorem turn_fine (a0:Option Addr)(n c0:Nat)(xs:List Int)(p:Int)(w:World)(h0:Reads .i64 w a0 n xs)(hn:n%2=0)(hp:0≤p∧p≤1000)(hb:n*8≤281474976710656) :
  Calls Tryz.prog 117 #[.slice a0 n c0,.int .i64 p] w fun e w'=>(∃ a c,e=.returned (.tuple #[.slice a n c,.int .i64 0])∧Reads .i64 w' a n (turnZ xs p n)∧(a=none→c=0))∧Below w.heap.size w w':=by
 obtain⟨k,rfl⟩:∃ k,n=2*k:=⟨n/2,by omega⟩
 exact turn_ok _ _ _ _ _ _ h0 hp hb
theorem part_reads {w:World}{x:Addr}{n:Nat}{xs:List Int}(h:Reads .i64 w (some x) n xs){H d m:Nat}(e:H*d=n)(hm:m<H):m*d+d≤n∧Reads .i64 w (some (x.add (m*d))) d ((xs.drop (m*d)).take d):=by
 have h1:(m+1)*d≤H*d:=Nat.mul_le_mul_right d hm
 rw[Nat.succ_mul,e] at h1
 exact⟨h1,h.cut _ _ h1⟩
theorem heads_ok (x:Addr)(n c0 H:Nat)(xs:List Int)(p:Int)(w:World)(h0:Reads .i64 w (some x) n xs)(l0:n≤c0)(hH:0<H)(hn:0<n)(h:n%H=0∧n/H%2=0)(hp:0≤p∧p≤1000)(hb:n*8≤140737488355328) :
  Calls Tryz.prog 95 #[.slice (some x) n c0,.int .i64 H,.int .i64 p] w fun e w'=>(∃ a c,e=.returned (.tuple #[.slice a n c,.int .i64 0])∧Reads .i64 w' a n (headsL xs p (n/H) H)∧n≤c)∧Below w.heap.size w w':=by
 obtain⟨i0,hi,hz0,hz1,hz2⟩:=info_parts info2
 have hm:=h0.max
 have ks:=splits_call n H hH hm w
 rw[decide_eq_true h] at ks
 obtain⟨d,ed⟩:∃ d,n/H=d:=⟨_,rfl⟩
 have ed':(n:Int)/(H:Int)=(d:Int):=by rw[←ed];simp
 have eH:H*d=n:=by rw[←ed,Nat.mul_comm];exact Nat.div_mul_cancel (Nat.dvd_of_mod_eq_zero h.1)
 rw[ed] at h ⊢
 have d2:=h.2
 have d0:0<d:=by
  rcases Nat.eq_zero_or_pos d with r|r
  ·subst r;simp at eH;omega
  ·exact r
 have hdn9q:d≤n:=by rw[←ed];exact Nat.div_le_self _ _
 clear h ed
 have z:((H:Int)==0)=false:=by simp;omega
 have zn:((n:Int)==0)=false:=by simp;omega
 have kt:=fun (W:World) a c ys (h:Reads .i64 W a d ys) (hd:d*8≤281474976710656)=>turn_fine a d c ys p W h d2 hp hd
 go_enter Tryz.func95,Tryz.ntmps95
 go_wp2_with (first
  | (go_at_call 116;refine ks.mono ?_;rintro e w' ⟨rfl,h⟩;obtain rfl:=h.symm)
  | (at_make;refine wpList_make_own _ rfl _ (.tmp 28) 34 rfl w.heap.size 2 i0 (.int .i64 0) 1 Tryz.underlying34 hi hz0 hz1 .i64 .i64 _ n rfl rfl rfl (by rw[hz2];omega) (by unfold maxLen;omega) (Nat.le_refl _) ?_;intro w1 hown hgrow))
 have hbel:Below w.heap.size w w1:=(Below.refl _ _).grown hgrow (Nat.le_refl _) (fun k h=>by cases h)
 go_wp2
 go_loopw [8,10] (fun v i wr=>∃ k:Nat,k≤H∧i=.int .i64 ((k*d:Nat):Int)∧Below w.heap.size w wr∧wr.ownsRow w.heap.size 2 1 v (k*d) ((headsL xs p d k).map (Value.int .i64))) (fun _ i _=>n-(intOf i).toNat)
 case atStart=>exact⟨0,Nat.zero_le _,by simp,hbel,by simpa [headsL] using hown⟩
 case round =>
  clear hown hgrow hbel
  obtain⟨k,hk,rfl,hbr,ho⟩:=hrel
  by_cases hlt:k<H
  ·obtain⟨hq,hr⟩:=part_reads (h0.below hbr) eH hlt
   have es:headsL xs p d (k+1)=headsL xs p d k++turnZ ((xs.drop (k*d)).take d) p d:=rfl
   have ek:(k+1)*d=k*d+d:=Nat.succ_mul k d
   obtain⟨ys,ey⟩:∃ ys,(xs.drop (k*d)).take d=ys:=⟨_,rfl⟩
   obtain⟨P,eP⟩:∃ P,k*d=P:=⟨_,rfl⟩
   rw[ey] at hr es
   rw[eP] at hr hq ek ho ⊢
   have Es:Hid (headsL xs p d (k+1)=headsL xs p d k++turnZ ys p d):=es
   have Ek:Hid ((k+1)*d=P+d):=ek
   obtain⟨Q,eQ⟩:∃ Q,P+d=Q:=⟨_,rfl⟩
   have eQ':(P:Int)+(d:Int)=(Q:Int):=by omega
   have eQ2:Q-P=d:=by omega
   have hQ:Q≤n:=by omega
   have hP:P<Q:=by omega
   clear ey eP es ek h0 ks eH hk eQ
   go_wp2_with (first
    | (go_at_call 117;refine (kt _ _ _ _ hr (by omega)).mono ?_;rintro e W2 ⟨⟨p2,q2,rfl,r2,n2⟩,hb2⟩;replace ho:=oBe ho hb2;replace hbr:=bTn hbr hb2;clear hb2 hr;have hsz:=hbr.size)
    | (at_builtin;refine wpList_copy rfl (.tmp 55) (.tmp 56) 34 rfl w.heap.size 2 i0 (.int .i64 0) 8 Tryz.underlying34 hi hz0 hz1 hz2 rfl _ P _ rfl ho .i64 p2 d q2 _ rfl r2 n2 (by unfold maxLen;omega) (by omega) hsz ?_;intro v1 W3 ho3 hg3;have R:=And.intro (below_append hbr ho hg3) ho3;clear ho3 hg3 ho))
   go_roundw
   case rel=>exact⟨k+1,by omega,by rw[Ek.out];congr 1;omega,R.1,by rw[Ek.out,Es.out,List.map_append];exact R.2⟩
   case measure=>simp[intOf];omega
  ·have e:k=H:=by omega
   subst e
   rw[eH] at ho ⊢
   have fin:=oRe (zs:=headsL xs p d k) ho (by rw[headsL_length,eH]) (wf_headsL _ _ _ _) (fun j hj=>copy_at _ _ _ (by rw[headsL_length,eH];exact hj))
   obtain⟨a,c,rfl,hr⟩:=fin
   have hn:=own_cap ho
   clear ho kt
   go_wp2
   go_ret2
   exact⟨⟨_,_,rfl,hr,hn⟩,hbr⟩
end Go.Proofs.YthliomlmhfjhnaaGreat

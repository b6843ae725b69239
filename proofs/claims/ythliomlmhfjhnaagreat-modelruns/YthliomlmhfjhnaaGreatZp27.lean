/- Texts put together. -/
import Derived.Test.YthliomlmhfjhnaaGreatZp15
import Derived.Test.YthliomlmhfjhnaaGreatZp20
namespace Go.Proofs.YthliomlmhfjhnaaGreat
set_option maxRecDepth 20000
set_option maxHeartbeats 16000000
open Go.ChangeShapes Go.WideShapes Go.ChangeAt Go.RowKit
set_option linter.unusedVariables false
set_option linter.unusedSimpArgs false
def allL (q:List Int)(K V:Nat→List Int)(d n:Nat):Nat→List Int
 | 0=>[]
 | m+1=>allL q K V d n m++QcA ((q.drop (m*d)).take d) (cutR K (m*d) d) (cutR V (m*d) d) d n
theorem Qca (q:List Int)(K V:Nat→List Int)(d n m:Nat):(allL q K V d n m).length=m*d:=by
 induction m with
 | zero=>simp[allL]
 | succ m ih=>rw[allL,List.length_append,ih,Qcn,Nat.succ_mul]
theorem Qkb (q:List Int)(K V:Nat→List Int)(d n m:Nat):∀ z∈allL q K V d n m,(Lit.int .i64 z).wf=true:=by
 induction m with
 | zero=>intro z hz;simp[allL] at hz
 | succ m ih =>
  intro z hz
  rw[allL,List.mem_append] at hz
  rcases hz with h|h
  ·exact ih z h
  ·exact QfD _ _ _ _ _ z h
theorem QgU {H d m N:Nat}(e:H*d=N)(hm:m<H):m*d+d≤N:=by
 have h1:(m+1)*d≤H*d:=Nat.mul_le_mul_right d hm
 rw[Nat.succ_mul,e] at h1
 exact h1
theorem QnC (x:Addr)(N c0 H:Nat)(q:List Int)(a1:Option Addr)(n c1:Nat)(A:Nat→Option Addr)(C:Nat→Nat)(K:Nat→List Int)(a2:Option Addr)(c2:Nat)(A':Nat→Option Addr)(C':Nat→Nat)(V:Nat→List Int)(w:World)
  (h0:Reads .i64 w (some x) N q) (l0:N≤c0) (h1:Grid w a1 n A C K) (hC:∀ r,r<n→(K r).length≤C r) (h2:Grid w a2 n A' C' V) (hC':∀ r,r<n→(V r).length≤C' r) (hH:0<H) (hN:0<N) (hn:0<n) (hmod:N%H=0) (hr:∀ r,r<n→(K r).length=N∧(V r).length=N)
  (hb0:N*8≤140737488355328) (hb1:n*24≤140737488355328) :
  Calls Tryz.prog 62 #[.slice (some x) N c0,.slice a1 n c1,.slice a2 n c2,I4 H] w fun e w'=>(∃ a c,e=.returned (.tuple #[.slice a N c,I4 0])∧Reads .i64 w' a N (allL q K V (N/H) n H)∧N≤c∧∀ x,a=some x→w.heap.size≤x.block)∧Below w.heap.size w w':=by
 obtain⟨i0,hi,hz0,hz1,hz2⟩:=info_parts QaT
 have hm:=h0.max
 have kf:=QiU (some x) N c0 a1 n c1 A C K a2 c2 A' C' V w h1 h2 hN hn hr
 obtain⟨d,ed⟩:∃ d,N/H=d:=⟨_,rfl⟩
 have ed':(N:Int)/(H:Int)=(d:Int):=by rw[←ed];simp
 have er':(N:Int)%(H:Int)=0:=by omega
 have eH:H*d=N:=by rw[←ed,Nat.mul_comm];exact Nat.div_mul_cancel (Nat.dvd_of_mod_eq_zero hmod)
 rw[ed]
 have d0:0<d:=by
  rcases Nat.eq_zero_or_pos d with r|r
  ·subst r;simp at eH;omega
  ·exact r
 have hdn9q:d≤N:=by rw[←ed];exact Nat.div_le_self _ _
 clear ed hmod
 have z:((H:Int)==0)=false:=by simp;omega
 have hmf:∀ (fn:Fn) (first cap:Array Value) (w:World),(Instr.makeFunc fn first cap).run Tryz.prog w=.ok (.func fn first cap) w:=fun _ _ _ _=>rfl
 obtain⟨W0,hW0⟩:∃ W0,W0=w.alloc (.cells #[I4 d] 3):=⟨_,rfl⟩
 have bw0:Below w.heap.size w W0:=by rw[hW0];exact bNw (bT w) _
 have box:W0.cell? ⟨w.heap.size,0,none⟩=some (I4 d):=by rw[hW0];exact cell_of_one (heap_alloc_new w _)
 go_enter Tryz.func62,Tryz.ntmps62
 go_wp2_with (first
  | (go_at_call 96;refine kf.mono ?_;rintro e w' ⟨rfl,h⟩;obtain rfl:=h.symm;clear kf)
  | (at_make;rw[←hW0];refine wpList_make_own _ rfl _ (.tmp 36) 34 rfl W0.heap.size 2 i0 (I4 0) 1 Tryz.underlying34 hi hz0 hz1 .i64 .i64 _ N rfl rfl rfl (by rw[hz2];omega) (by unfold maxLen;omega) nL ?_;intro w1 hown hgrow))
 have hbel:Below W0.heap.size W0 w1:=bR.grown hgrow nL (fun k h=>by cases h)
 have h0':=h0.below bw0
 have h1':=h1.below bw0
 have h2':=h2.below bw0
 have eS:W0.heap.size=w.heap.size+1:=by rw[hW0];simp
 clear hgrow h0 h1 h2 hW0
 obtain⟨B,eB⟩:∃ B,w.heap.size=B:=⟨_,rfl⟩
 rw[eB] at bw0 box eS ⊢
 have EB:Hid (w.heap.size=B):=eB
 have ES:Hid (W0.heap.size=B+1):=eS
 clear eB eS
 go_wp2
 go_loopw [12,13] (fun v i wr=>∃ k:Nat,k≤H∧i=I4 ((k*d:Nat):Int)∧Below W0.heap.size W0 wr∧wr.ownsRow W0.heap.size 2 1 v (k*d) ((allL q K V d n k).map (Value.int .i64))) (fun _ i _=>N-(intOf i).toNat)
 case atStart=>exact⟨0,Nat.zero_le _,by simp,hbel,by have:=hown;rw[ES.out] at this ⊢;simpa [allL] using this⟩
 case round =>
  clear hown hbel
  obtain⟨k,hk,rfl,hbr,ho⟩:=hrel
  by_cases hlt:k<H
  ·have hq:=QgU eH hlt
   have hc:wr.cell? ⟨B,0,none⟩=some (I4 d):=(hbr.cell (World.block_lt_of_cell? W0 _ box)).trans box
   have hr0:=(h0'.below hbr).cut (k*d) d hq
   have kp:=QgV x N c0 (k*d) d B wr d0 hq l0 hm hc
   have kk:=fun (W:World) (hb:Below W0.heap.size W0 W)=>QdV a1 n c1 A C K (k*d) d B W (h1'.below hb) hC d0 (fun r h=>by rw[(hr r h).1];exact hq) ((hb.cell (World.block_lt_of_cell? W0 _ box)).trans box) hb1
   have kv:=fun (W:World) (hb:Below W0.heap.size W0 W)=>QdV a2 n c2 A' C' V (k*d) d B W (h2'.below hb) hC' d0 (fun r h=>by rw[(hr r h).2];exact hq) ((hb.cell (World.block_lt_of_cell? W0 _ box)).trans box) hb1
   have lk:∀ r,r<n→(cutR K (k*d) d r).length=d∧(cutR V (k*d) d r).length=d:=fun r h=>⟨QaV _ _ _ _ (by rw[(hr r h).1];exact hq),QaV _ _ _ _ (by rw[(hr r h).2];exact hq)⟩
   have es:allL q K V d n (k+1)=allL q K V d n k++QcA ((q.drop (k*d)).take d) (cutR K (k*d) d) (cutR V (k*d) d) d n:=rfl
   have ek:(k+1)*d=k*d+d:=Nat.succ_mul k d
   obtain⟨qs,eq⟩:∃ qs,(q.drop (k*d)).take d=qs:=⟨_,rfl⟩
   rw[eq] at hr0 es
   obtain⟨P,eP⟩:∃ P,k*d=P:=⟨_,rfl⟩
   simp only[eP] at kk kv lk
   rw[eP] at hr0 hq ek ho es kp ⊢
   have kh:=fun (W:World) a b c e f (h0:Reads .i64 W a d qs) (h1:Grid W b n (cutA A P) (fun _=>d) (cutR K P d)) (h2:Grid W e n (cutA A' P) (fun _=>d) (cutR V P d))=>Qmv a d d qs b n c (cutA A P) (fun _=>d) (cutR K P d) e f (cutA A' P) (fun _=>d) (cutR V P d) W h0 h1 h2 d0 hn lk (by omega) (by omega)
   have Es:Hid (allL q K V d n (k+1)=allL q K V d n k++QcA qs (cutR K P d) (cutR V P d) d n):=es
   have Ek:Hid ((k+1)*d=P+d):=ek
   obtain⟨O,eO⟩:∃ O,QcA qs (cutR K P d) (cutR V P d) d n=O:=⟨_,rfl⟩
   rw[eO] at Es
   simp only[eO] at kh
   have hP:P<N:=by omega
   have Box:Hid (W0.cell? ⟨B,0,none⟩=some (I4 d)):=box
   clear eq eP es ek eH hk eO lk hC hC' hr h0' h1' h2' box hc
   go_wp2_with (first
    | (go_at_call 97;refine kp.mono ?_;rintro e w' ⟨rfl,h⟩;obtain rfl:=h.symm;clear kp)
    | (go_at_call_of 99 (Value.slice a1 n c1);refine (kk _ hbr).mono ?_;rintro e W2 ⟨⟨x2,k2,rfl,g2⟩,b2⟩;have hbr2:=bTn hbr b2;clear kk)
    | (go_at_call_of 99 (Value.slice a2 n c2);refine (kv _ hbr2).mono ?_;rintro e W3 ⟨⟨x3,k3,rfl,g3⟩,b3⟩;replace g2:=g2.below b3;have hbr3:=bTn hbr2 b3;have b23:=bTn b2 b3;clear kv b3 b2 hbr2)
    | (go_at_call 98;refine (kh _ _ _ _ _ _ (hr0.below b23) g2 g3).mono ?_;rintro e W4 ⟨⟨p4,q4,rfl,r4,n4⟩,b4⟩;replace b23:=bTn b23 b4;replace ho:=oBe ho b23;replace hbr:=bTn hbr b23;clear kh b4 b23 hbr3 hr0 g2 g3;have hsz:=hbr.size)
    | (at_builtin;refine Qav rfl (.tmp 61) (.tmp 62) 34 rfl W0.heap.size 2 i0 (I4 0) 8 Tryz.underlying34 hi hz0 hz1 hz2 rfl _ P _ rfl ho .i64 p4 d q4 _ rfl r4 n4 (by unfold maxLen;omega) (by omega) hsz ?_;intro v1 W5 ho3 hg3;have R:=And.intro (below_append hbr ho hg3) ho3;have hc5:W5.cell? ⟨B,0,none⟩=some (I4 d):=(R.1.cell (World.block_lt_of_cell? W0 _ Box.out)).trans Box.out;clear ho3 hg3 ho))
   go_roundw
   case rel=>exact⟨k+1,by omega,by rw[Ek.out];congr 1,R.1,by rw[Ek.out,Es.out,List.map_append];exact R.2⟩
   case measure=>simp[intOf];omega
  ·have e:k=H:=by omega
   subst e
   rw[eH] at ho ⊢
   have fin:=oRe (zs:=allL q K V d n k) ho (by rw[Qca,eH]) (Qkb _ _ _ _ _ _) (fun j hj=>QbR _ _ _ (by rw[Qca,eH];exact hj))
   obtain⟨a,c,rfl,hr⟩:=fin
   have hn:=QaL ho
   have fr:Hid (∀ x,a=some x→w.heap.size≤x.block):=fun x hx=>by
    have h1:=(ho.lt x.block (by rw[hx];rfl)).1
    have h2:=EB.out
    have h3:=ES.out
    omega
   have bw:Below w.heap.size w wr:=by rw[EB.out];exact bw0.trans (hbr.mono (by rw[ES.out];omega))
   clear ho
   go_wp2
   go_ret2
   exact⟨⟨_,_,rfl,hr,hn,fr.out⟩,bw⟩
theorem QhW (a0:Option Addr)(n c0:Nat)(xs:List Int)(a1:Option Addr)(c1:Nat)(ys:List Int)(w:World)(h0:Reads .i64 w a0 n xs)(h1:Reads .i8 w a1 n ys)(hn:0<n)(hb:n*8≤140737488355328) :
  Calls Tryz.prog 34 #[.slice a0 n c0,.slice a1 n c1] w fun e w'=>(∃ a c,e=.returned (.tuple #[.slice a n c,I4 0])∧Reads .i64 w' a n (rmsZ xs ys n)∧∀ x,a=some x→w.heap.size≤x.block)∧Bw w w':=by
 obtain⟨i0,hi,hz0,hz1,hz2⟩:=info_parts QaT
 have hm:=h0.max
 have nz:((n:Int)==0)=false:=by simp;omega
 go_enter Tryz.func34,Tryz.ntmps34
 go_wp2
 go_loopw [6,7] (fun s i wr=>∃ k:Nat,k≤n∧i=I4 k∧s=I4 (sqZ xs k)∧∃ m,wr=w.drewN m) (fun _ i _=>n-(intOf i).toNat)
 case atStart=>exact⟨0,Nat.zero_le _,rfl,rfl,0,rfl⟩
 case round =>
  obtain⟨k,hk,rfl,rfl,m,hw⟩:=hrel
  by_cases hlt:k<n
  ·obtain⟨x,rfl⟩:=h0.some_ (by omega)
   have cx:wr.cell? (x.add k)=some (I4 (xs.getD k 0)):=by rw[hw];exact h0.cell x rfl k hlt
   have Hw:Hid (wr=w.drewN m):=hw
   clear hw
   have es:sqZ xs (k+1)=addZ (sqZ xs k) (cZ (xs.getD k 0)*cZ (xs.getD k 0)):=rfl
   have ws:=QmJ xs k
   obtain⟨Z,eZ⟩:∃ Z,xs.getD k 0=Z:=⟨_,rfl⟩
   obtain⟨S,eS⟩:∃ S,sqZ xs k=S:=⟨_,rfl⟩
   rw[eZ] at cx es
   rw[eS] at es ws ⊢
   have Es:Hid (sqZ xs (k+1)=addZ S (cZ Z*cZ Z)):=es
   clear eZ eS es
   have bp:=QhC Z
   have wp:(Lit.int .i64 (cZ Z*cZ Z)).wf=true:=WalkArith.wf_i64 ⟨by omega,by omega⟩
   go_wp2
   go_quiet (first|(go_at_call 73;refine Calls.quiet_of_same (rCc _ _))|(go_at_call 72;refine Calls.quiet_of_same (Qbu _ _ ws wp _)))
   go_wp2
   go_roundw
   case rel=>exact⟨k+1,by omega,by go_num,by rw[Es.out],_,by rw[Hw.out,World.drewN_drewN]⟩
   case measure=>simp[intOf];omega
  ·have e:k=n:=by omega
   subst e
   have hb0:Bw w wr:=bDr bR ⟨m,hw⟩
   clear hw
   rename World=>W1
   have sb:=Qfe xs k
   have rb:=Qb2 (Qd3 xs k)
   have krs:=fun W=>Qc6 (Qd3 xs k) W
   have eM:Qd3 xs k=cZ (Qac ((sqZ xs k).tdiv k) 16+1):=rfl
   obtain⟨r,er⟩:∃ r,Qbe (Qd3 xs k)=r:=⟨_,rfl⟩
   have Er:Hid (Qbe (Qd3 xs k)=r):=er
   rw[er] at rb krs
   rw[eM] at krs
   clear er eM
   obtain⟨S,eS⟩:∃ S,sqZ xs k=S:=⟨_,rfl⟩
   rw[eS] at sb krs ⊢
   clear eS
   obtain⟨t0,t1⟩:=Qem S k sb.1
   have t2:S.tdiv k≤9223372036854775807:=by omega
   have wq:(Lit.int .i64 (S.tdiv k)).wf=true:=WalkArith.wf_i64 ⟨by omega,by omega⟩
   obtain⟨u0,u1⟩:=QcC (S.tdiv k) t0 t2
   have wr':(Lit.int .i64 r).wf=true:=WalkArith.wf_i64 ⟨by omega,by omega⟩
   go_wp2_with (first|(go_at_call 74;refine (refShift_call _ _ wq (by decide) _).mono ?_;rintro e w' ⟨rfl,h⟩;obtain rfl:=h.symm)|(go_at_call 73;refine (rCc _ _).mono ?_;rintro e w' ⟨rfl,h⟩;obtain rfl:=h.symm)|(go_at_call 75;refine (krs _).mono ?_;rintro e w' ⟨rfl,h⟩;obtain rfl:=h.symm))
   clear krs t0 t1 t2 u0 u1 wq sb
   go_loopw [10,11] (fun v i wr=>∃ j:Nat,j≤k∧i=I4 j∧Bw w wr∧wr.ownsRow w.heap.size 2 1 v j (gath (rmsF xs ys r) .i64 j)) (fun _ i _=>k-(intOf i).toNat)
   case atStart=>exact⟨0,Nat.zero_le _,rfl,hb0,World.ownsRow_nil _ _ _ _⟩
   case round =>
    obtain⟨j,hj,rfl,hbr,ho⟩:=hrel
    by_cases hlt:j<k
    ·have hr:=h0.below hbr
     have hq:=h1.below hbr
     obtain⟨x,rfl⟩:=h0.some_ (by omega)
     obtain⟨y,rfl⟩:=h1.some_ (by omega)
     have cx:=hr.cell x rfl j hlt
     have cy:=hq.cell y rfl j hlt
     have wx:=h0.wf j
     have wy:=h1.wf j
     have hsz:=hbr.size
     obtain⟨X,eX⟩:∃ X,xs.getD j 0=X:=⟨_,rfl⟩
     obtain⟨Y,eY⟩:∃ Y,ys.getD j 0=Y:=⟨_,rfl⟩
     have eP:cZ (Qac (mulZ X r*Y) 6)=rmsF xs ys r j:=by unfold rmsF Qeh;rw[eX,eY]
     have Ep:Hid (cZ (Qac (mulZ X r*Y) 6)=rmsF xs ys r j):=eP
     rw[eX] at cx wx
     rw[eY] at cy wy
     have mb:=QaA X r
     have b8:=QnK wy
     obtain⟨p0,p1⟩:=QdI _ _ mb b8
     have wp:(Lit.int .i64 (mulZ X r*Y)).wf=true:=WalkArith.wf_i64 ⟨by omega,by omega⟩
     have ew:IntKind.i64.wrap (mulZ X r*Y)=mulZ X r*Y:=by rw[IntKind.wrap_i64];omega
     have ey:IntKind.i64.wrap Y=Y:=by rw[IntKind.wrap_i64];omega
     clear eX eY eP hr hq h0 h1 hb0
     go_wp2
     go_region_law (first
      | (with_reducible show if Region.wanted { dst:=_,op:=Op.call { callee:=Callee.value (Operand.func 76),args:=_,argTypes:=_ },type:=_,pos:=_,after:=_,guard:=_ } _=true then _ else _;refine Qfd rfl 76 (.tmp 60) (.tmp 61) _ _ rfl Qnp (I4 X) (I4 r) _ (by simp[Act.eval,Act.put]) (by simp[Act.eval,Act.put]) (refMul_call _ _ wx wr' _) ?_)
      | (with_reducible show if Region.wanted { dst:=_,op:=Op.call { callee:=Callee.value (Operand.func 74),args:=_,argTypes:=_ },type:=_,pos:=_,after:=_,guard:=_ } _=true then _ else _;refine Qfd rfl 74 (.tmp 68) _ _ _ rfl Qnq (I4 (mulZ X r*Y)) (I4 6) _ (by simp[Act.eval,Act.put,ew,ey]) (by simp[Act.eval,Act.put]) (refShift_call _ _ wp (by decide) _) ?_)
      | (with_reducible show if Region.wanted { dst:=_,op:=Op.call { callee:=Callee.value (Operand.func 73),args:=_,argTypes:=_ },type:=_,pos:=_,after:=_,guard:=_ } _=true then _ else _;refine Qc2 rfl 73 (.tmp 69) _ rfl Qns (I4 (Qac (mulZ X r*Y) 6)) _ (by simp[Act.eval,Act.put,ew,ey]) (rCc _ _) ?_)
      | (with_reducible show if Region.wanted { dst:=_,op:=Op.call { callee:=Callee.builtin Builtin.append,args:=_,argTypes:=_ },type:=_,pos:=_,after:=_,guard:=_ } _=true then _ else _;refine Qeo rfl (.tmp 56) (.tmp 71) 34 rfl w.heap.size 2 i0 (I4 0) 1 8 Tryz.underlying34 hi hz0 hz1 hz2 rfl (by decide) _ _ _ (by simp[Act.eval,Act.put]) (ho.alloc _).drew ⟨wr.heap.size,0,none⟩ 1 1 [I4 (cZ (Qac (mulZ X r*Y) 6))] (by simp[Act.eval,Act.put]) rfl (QiN _ _ _) (oOc _ _) (by unfold maxLen;omega) (by omega) (Qgo _ _ _ hsz) ?_;intro v' w1 ho' hg))
     all_goals
      have R:=aSt hsz Ep.out hbr ho ho' (Qfu hg)
      clear ho' hg ho hbr
      go_wp2
      go_roundw
      case rel=>exact⟨j+1,by omega,by go_num,R⟩
      case measure=>simp[intOf];omega
    ·have e:j=k:=by omega
     subst e
     have fin:=oRe (zs:=rmsZ xs ys j) ho (by simp[rmsZ]) (fun z hz=>by obtain⟨y,_,rfl⟩:=List.mem_map.1 hz;exact wCz _) (fun i hi=>by rw[QaP _ _ _ _ hi];unfold rmsZ;rw[Er.out];simp[hi])
     obtain⟨a,c,rfl,hr⟩:=fin
     have fr:Hid (∀ x,a=some x→w.heap.size≤x.block):=fun x hx=>(ho.lt x.block (by rw[hx];rfl)).1
     clear ho
     go_wp2
     go_ret2
     exact⟨⟨_,_,rfl,hr,fr.out⟩,hbr⟩
end Go.Proofs.YthliomlmhfjhnaaGreat

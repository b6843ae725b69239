/- Texts put together: GrNext, GrRefShape, GnAskB, GnAskC, GnAskP. -/
import Derived.Test.YtbkjhfmehemgpaaGreatRows
import Derived.Test.YtbkjhfmehemgpaaGreatFa28
import Derived.Test.YtbkjhfmehemgpaaGreatFa16
namespace Go.Proofs.YtbkjhfmehemgpaaGreat
set_option maxRecDepth 20000
set_option maxHeartbeats 16000000
open Go.ChangeShapes Go.WideShapes Go.ChangeAt Go.RowKit
set_option linter.unusedVariables false
set_option linter.unusedSimpArgs false
section
open Go.Sort hiding Below
theorem grcopied1 {W W1:World} {m:Nat} {zs:List Int} {v:Value} (ho:W1.ownsRow W.heap.size 118 1 v (0+m) ([]++zs.map (Value.int .i8))) (hg:(W.alloc (.cells #[] 118)).grownBy W1 (Value.slice (some ⟨W.heap.size,0,none⟩) 0 0).ownBlock)
  {a:Option Addr} {wz:World} (hr:Reads .i8 wz a m zs):∃ s:SL,v=.slice s.a s.n s.c∧s.n=m∧TS W.heap.size W1 s zs∧Below W.heap.size W W1:=by
 obtain⟨a1,c1,e1,r1,hb,n1,l1⟩:=copied (W:=W) (w:=W) (Below.refl _ W) (.cells #[] 118) ho hg hr
 simp only[Nat.zero_add,List.nil_append] at ho
 subst e1
 have ty:=own_typed ho
 refine⟨⟨a1,m,c1⟩,rfl,rfl,⟨⟨r1,n1,l1⟩,fun y hy=>⟨?_,ty y hy⟩⟩,hb⟩
 have hy':a1=some y:=hy
 rw[hy'] at ho
 exact (ho.lt y.block (by simp[Value.ownBlock])).1
def CutA (w:World) (ws:List Int) (T N q cb:Nat) (W:World):Prop:=∃ (y:Addr) (c:Nat),Blk 114 W cb #[.slice (some y) (T - q*N) c]∧Reads .i8 w (some y) (T - q*N) (ws.drop (q*N))∧T - q*N≤c
theorem CutA.below {w:World} {ws:List Int} {T N q cb:Nat} {W W':World} (h:CutA w ws T N q cb W) (hb:Below W.heap.size W W'):CutA w ws T N q cb W':=by
 obtain⟨y,c,k,r,l⟩:=h
 exact⟨y,c,k.kept hb,r,l⟩
theorem CutA.keeps {w:World} {ws:List Int} {T N q cb:Nat} {W W':World} (h:CutA w ws T N q cb W) (hb:Keeps 114 W W'):CutA w ws T N q cb W':=by
 obtain⟨y,c,k,r,l⟩:=h
 exact⟨y,c,hb.blk k,r,l⟩
theorem next_call (w:World) (ws:List Int) (T N q cb:Nat) (W:World) (hC:CutA w ws T N q cb W) (hq:q*N+N≤T) (hT:T≤100000) (hw:Below w.heap.size w W) :
  Calls Tryz.prog 61 #[.pointer (some ⟨cb,0,none⟩),.int .i64 (N:Int)] W fun e W'=>∃ s:SL,e=.returned (.slice s.a s.n s.c)∧TS W.heap.size W' s (segA N ws q)∧CutA w ws T N (q+1) cb W'∧Only cb W W'∧Keeps 37 W W'∧Keeps 63 W W'∧Keeps 118 W W':=by
 obtain⟨i0,hi,hz0,hz1,hz2⟩:=i118'
 obtain⟨x,c,hq0,hr0,hc⟩:=hC
 have enn:T - (q+1)*N=T - q*N - N:=by rw[Nat.add_mul,Nat.one_mul];omega
 have edr:ws.drop ((q+1)*N)=(ws.drop (q*N)).drop N:=by rw[List.drop_drop,Nat.add_mul,Nat.one_mul]
 obtain⟨n,en⟩:∃ n,T - q*N=n:=⟨_,rfl⟩
 have hk:N≤n:=by omega
 have hn:n≤100000:=by omega
 rw[en] at hq0 hr0 hc enn
 have hr:=hr0.below hw
 have hkc:(N:Int)≤(c:Int):=by omega
 have hkn:(N:Int)≤(n:Int):=by omega
 have k0:(0:Int)≤(N:Int):=by omega
 obtain⟨y,ey,ry⟩:∃ y:Addr,(if c=N then some x else some (x.add N))=some y∧Reads .i8 w (some y) (n - N) ((ws.drop (q*N)).drop N):=by
  by_cases e:c=N
  ·refine⟨x,by rw[if_pos e],?_⟩
   have hl:=hr.len
   rw[show n - N=0 by omega,List.drop_eq_nil_of_le (by omega)]
   exact⟨rfl,by omega,fun i=>by simpa using wf_nought .i8,fun h=>by omega,fun _ _ i hi=>by omega⟩
  ·refine⟨x.add N,by rw[if_neg e],?_⟩
   have:=hr0.cut N (n - N) (by omega)
   rwa [List.take_of_length_le (by rw[List.length_drop,hr.len];omega)] at this
 have c0:W.cell? ⟨cb,0,none⟩=some (.slice (some x) n c):=hq0.cell 0 rfl
 have key:∀ W1,Below W.heap.size W W1→W1.cell? ⟨cb,0,none⟩=some (.slice (some x) n c)∧W1.frozen? ⟨cb,0,none⟩=false∧Hid (Blk 114 W1 cb #[.slice (some x) n c]):=fun W1 hb=>⟨(hq0.kept hb).cell 0 rfl,(hq0.kept hb).open_ 0,hq0.kept hb⟩
 have rt:Reads .i8 W (some x) N (segA N ws q):=by have:=hr.cut 0 N (by omega);simpa [Addr.add,segA] using this
 have rt':Reads .i8 (W.alloc (.cells #[] 118)) (some x) N (segA N ws q):=rt.below (below_new (Below.refl _ _) _)
 have c0':(W.alloc (.cells #[] 118)).cell? ⟨cb,0,none⟩=some (.slice (some x) n c):=(hq0.kept (below_new (Below.refl _ _) _)).cell 0 rfl
 have own0:(W.alloc (.cells #[] 118)).ownsRow W.heap.size 118 1 (.slice (some ⟨W.heap.size,0,none⟩) 0 0) 0 []:=World.ownsRow_lit (base:=W.heap.size) (size:=1) W #[] 0 (Nat.le_refl _) (by unfold maxLen;omega) (by simp)
 have HK:=hidden_ key
 have HR:=hidden_ ry
 have HE:=hidden_ (And.intro enn edr)
 have HT:=hidden_ rt
 clear key hq0 ry enn edr hr hr0 en rt
 go_enter Tryz.func61,Tryz.ntmps61
 go_wp2_with (first
  | (at_builtin;refine wpList_copy rfl _ _ 31 rfl W.heap.size 118 i0 (.int .i8 0) 1 Tryz.underlying31 hi hz0 hz1 hz2 rfl _ 0 [] rfl own0 .i8 (some x) N c (segA N ws q) rfl rt' (by intro h;cases h) (by unfold maxLen;omega) (by omega) (by simp) ?_;intro v1 W1 ho hg;obtain⟨s,rfl,-,ts,hb⟩:=grcopied1 ho hg HT.out;obtain⟨g1,g2,g3⟩:=HK.out W1 hb;clear ho hg own0 c0'))
 go_ret
 have on:=Only.set cb 0 W1 (.slice (some y) (n - N) (c - N))
 refine⟨s,rfl,ts.step (Keeps.of_only on g3.out (by decide)),⟨y,c - N,?_,?_,?_⟩,(Only.of_below hb).trans on,(Keeps.of_below hb).trans (Keeps.of_only on g3.out (by decide)),(Keeps.of_below hb).trans (Keeps.of_only on g3.out (by decide)),(Keeps.of_below hb).trans (Keeps.of_only on g3.out (by decide))⟩
 ·rw[HE.out.1];exact g3.out.set 0 _
 ·rw[HE.out.1,HE.out.2];exact HR.out
 ·rw[HE.out.1];omega
end
section
open Go.Sort hiding Below
structure RsI (w W1:World) (ws:List Int) (T N k j:Nat) (R S:Int) (v:Value) (Y:Nat→Nat→SL) (f:Nat→Nat→List Int) (GB:Nat) (s:Nat→SL) (W:World):Prop where
 bel:Below W1.heap.size W1 W
 cut:CutA w ws T N (4*k+j) W1.heap.size W
 ad:Blk 37 W (W1.heap.size+1) #[.int .i64 R,.int .i64 S,v]
 ta:TA W1.heap.size W v k Y f
 own:∀ g,v.ownBlock=some g→g≠GB
 gb:W1.heap.size≤GB
 lay:Blk 63 W GB #[(if 0<j then (s 0).v else nilS),(if 1<j then (s 1).v else nilS),(if 2<j then (s 2).v else nilS),(if 3<j then (s 3).v else nilS)]
 row:∀ i,i<j→TS W1.heap.size W (s i) (segA N ws (4*k+i))
theorem ta_other {B:Nat} {w w':World} {v:Value} {n:Nat} {Y:Nat→Nat→SL} {f:Nat→Nat→List Int} {g:Nat} {cs:Array Value} (h:TA B w v n Y f) (o:Only g w w') (q:Blk 63 w g cs) (hg:∀ b,v.ownBlock=some b→b≠g):TA B w' v n Y f:=by
 have k62:Keeps 118 w w':=Keeps.of_only o q (by decide)
 refine⟨⟨h.own.1,?_⟩,fun i hi j hj=>(h.lay i hi j hj).step k62⟩
 rcases h.own.2 with h2 | ⟨b,cap,cur,hv,hb,hh,r⟩
 ·exact .inl h2
 ·refine .inr ⟨b,cap,cur,hv,hb,?_,r⟩
  exact (o.block b (Array.getElem?_eq_some_iff.1 hh).1 (fun e=>hg b (by rw[hv];rfl) (by simpa using e))).trans hh
theorem RsI.step {w W1:World} {ws:List Int} {T N k j:Nat} {R S:Int} {v:Value} {Y:Nat→Nat→SL} {f:Nat→Nat→List Int} {GB:Nat} {s:Nat→SL} {W X:World} (h:RsI w W1 ws T N k j R S v Y f GB s W) (hj:j<4) (sj:SL) (ts:TS W.heap.size X sj (segA N ws (4*k+j))) (hC:CutA w ws T N (4*k+j+1) W1.heap.size X) (on:Only W1.heap.size W X) (k24:Keeps 37 W X) (k52:Keeps 63 W X) (k62:Keeps 118 W X) :
  X.cell? ⟨GB,j,none⟩=some nilS∧X.frozen? ⟨GB,j,none⟩=false∧Hid (RsI w W1 ws T N k (j+1) R S v Y f GB (upd s j sj) (X.setCell ⟨GB,j,none⟩ (.slice sj.a sj.n sj.c))):=by
 have qG:=k52.blk h.lay
 have qA:=k24.blk h.ad
 have tA:TA W1.heap.size X v k Y f:=⟨k52.own h.ta.own,fun i hi j hj=>(h.ta.lay i hi j hj).step k62⟩
 have bX:=Only.below h.bel (Nat.le_refl _) h.bel.size on
 have onG:=Only.set GB j X (.slice sj.a sj.n sj.c)
 have g24:Keeps 37 X (X.setCell ⟨GB,j,none⟩ (.slice sj.a sj.n sj.c)):=Keeps.of_only onG qG (by decide)
 have g75:Keeps 114 X (X.setCell ⟨GB,j,none⟩ (.slice sj.a sj.n sj.c)):=Keeps.of_only onG qG (by decide)
 have g62:Keeps 118 X (X.setCell ⟨GB,j,none⟩ (.slice sj.a sj.n sj.c)):=Keeps.of_only onG qG (by decide)
 have rows:∀ i,i<j+1→TS W1.heap.size (X.setCell ⟨GB,j,none⟩ (.slice sj.a sj.n sj.c)) (upd s j sj i) (segA N ws (4*k+i)):=fun i hi=>by
  by_cases e:i=j
  ·subst e
   rw[upd_same]
   exact (ts.le h.bel.size).step g62
  ·rw[upd_other s j sj e]
   exact ((h.row i (by omega)).step k62).step g62
 refine⟨?_,qG.open_ j,Only.below bX h.gb bX.size onG,by rw[←Nat.add_assoc];exact hC.keeps g75,g24.blk qA,ta_other tA onG qG h.own,h.own,h.gb,?_,rows⟩
 ·refine qG.cell j ?_
  rcases (show j=0∨j=1∨j=2∨j=3 by omega) with rfl | rfl | rfl | rfl<;>rfl
 ·rcases (show j=0∨j=1∨j=2∨j=3 by omega) with rfl | rfl | rfl | rfl
  ·exact set_blk qG 0 _ rfl
  ·exact set_blk qG 1 _ rfl
  ·exact set_blk qG 2 _ rfl
  ·exact set_blk qG 3 _ rfl
theorem RsI.full {w W1:World} {ws:List Int} {T N k:Nat} {R S:Int} {v:Value} {Y:Nat→Nat→SL} {f:Nat→Nat→List Int} {GB:Nat} {s:Nat→SL} {s0 s1 s2 s3:SL} {W:World} (h:RsI w W1 ws T N k 4 R S v Y f GB (upd (upd (upd (upd s 0 s0) 1 s1) 2 s2) 3 s3) W) :
  Blk 63 W GB #[.slice s0.a s0.n s0.c,.slice s1.a s1.n s1.c,.slice s2.a s2.n s2.c,.slice s3.a s3.n s3.c]∧∀ j,j<4→TS W1.heap.size W (four s0 s1 s2 s3 j) (segA N ws (4*k+j)):=by
 refine⟨h.lay,fun j hj=>?_⟩
 have:=h.row j hj
 rcases (show j=0∨j=1∨j=2∨j=3 by omega) with rfl | rfl | rfl | rfl
 ·exact this
 ·exact this
 ·exact this
 ·exact this
theorem ta_slice {B:Nat} {w:World} {v:Value} {n:Nat} {Y:Nat→Nat→SL} {f:Nat→Nat→List Int} (h:TA B w v n Y f):∃ s:SL,v=.slice s.a s.n s.c:=by
 rcases h.own.2 with⟨e,_⟩ | ⟨g,cap,cur,e,_⟩
 ·exact⟨⟨none,0,0⟩,e⟩
 ·exact⟨⟨_,_,_⟩,e⟩
theorem refShape_yes (R S d h v u x t n:Int) (x0:Addr) (ml N T c:Nat) (ws:List Int) (w:World) (hr:Reads .i8 w (some x0) T ws) (hc:T≤c) (hT:T=4*ml*N) (hml:ml≤1000) (hl:T≤100000) (hN:N≤1000) (eN:R*d=(N:Int)) (q:Int) (hq:(ml:Int)*4=q) (hqT:q*(N:Int)=(T:Int))
  (k35:∀ w,Calls Tryz.prog 47 #[.int .i64 R,.int .i64 S,.agg #[.int .i64 d,.int .i64 h,.int .i64 (ml:Int),.int .i64 v,.int .i64 u,.int .i64 x,.int .i64 t,.int .i64 n]] w fun e w'=>e=.returned (.bool true)∧Below w.heap.size w w') :
  Calls Tryz.prog 38 #[.int .i64 R,.int .i64 S,.agg #[.int .i64 d,.int .i64 h,.int .i64 (ml:Int),.int .i64 v,.int .i64 u,.int .i64 x,.int .i64 t,.int .i64 n],.slice (some x0) T c] w fun e w'=>∃ (L:SL) (Y:Nat→Nat→SL),e=.returned (.tuple #[.agg #[.int .i64 R,.int .i64 S,.slice L.a L.n L.c],.int .i64 0])∧NewA w.heap.size w' L Y (grshapeV ml N ws)∧Below w.heap.size w w':=by
 have hb:=below_new (below_new (Below.refl w.heap.size w) (.cells #[.int .i64 d,.int .i64 h,.int .i64 (ml:Int),.int .i64 v,.int .i64 u,.int .i64 x,.int .i64 t,.int .i64 n] 23)) (.cells #[.int .i64 0,.int .i64 0,nilS] 37)
 have qc:Blk 23 ((w.alloc (.cells #[.int .i64 d,.int .i64 h,.int .i64 (ml:Int),.int .i64 v,.int .i64 u,.int .i64 x,.int .i64 t,.int .i64 n] 23)).alloc (.cells #[.int .i64 0,.int .i64 0,nilS] 37)) w.heap.size #[.int .i64 d,.int .i64 h,.int .i64 (ml:Int),.int .i64 v,.int .i64 u,.int .i64 x,.int .i64 t,.int .i64 n]:=(Blk.new 23 w _).kept (below_new (Below.refl _ _) _)
 have qr:Blk 37 ((w.alloc (.cells #[.int .i64 d,.int .i64 h,.int .i64 (ml:Int),.int .i64 v,.int .i64 u,.int .i64 x,.int .i64 t,.int .i64 n] 23)).alloc (.cells #[.int .i64 0,.int .i64 0,nilS] 37)) (w.heap.size+1) #[.int .i64 0,.int .i64 0,nilS]:=Blk.new_at 37 (w.alloc _) _ _ (by simp)
 obtain⟨c0,c1,c2,c3,c4,c5,c6,c7⟩:=qc.cfg
 have q0:(0:Int)≤q:=by omega
 have q1:q≤4000:=by omega
 have start:∀ W1:World,CutA w ws T N (4*0+0) W1.heap.size ((W1.alloc (.cells #[.slice (some x0) T c] 114)).alloc (.cells #[.int .i64 R,.int .i64 S,nilS] 37)):=fun W1 =>
  ⟨x0,c,by rw[Nat.zero_mul,Nat.sub_zero];exact (Blk.new 114 W1 _).kept (below_new (Below.refl _ _) _),by rw[Nat.zero_mul,Nat.sub_zero,List.drop_zero];exact hr,by omega⟩
 have HS:=hidden_ start
 have HT:=hidden_ hT
 clear hr hT start
 go_enter Tryz.func38,Tryz.ntmps38
 go_wp2_with (first | (go_at_call 47;refine (k35 _).mono ?_;rintro e W1 ⟨rfl,h1⟩;replace qr:=qr.kept h1;replace qc:=qc.kept h1;replace hb:=below_then hb h1;clear h1 c0 c1 c2 c3 c4 c5 c6 c7;obtain⟨c0,c1,c2,c3,c4,c5,c6,c7⟩:=qc.cfg;obtain⟨z0,z1,z2⟩:=qr.c3;obtain⟨o0,o1,o2⟩:=qr.o3))
 have cut:=HS.out W1
 have qA:Blk 37 ((W1.alloc (.cells #[.slice (some x0) T c] 114)).alloc (.cells #[.int .i64 R,.int .i64 S,nilS] 37)) (W1.heap.size+1) #[.int .i64 R,.int .i64 S,nilS]:=Blk.new_at 37 (W1.alloc _) _ _ (by simp)
 have bA:Below W1.heap.size W1 ((W1.alloc (.cells #[.slice (some x0) T c] 114)).alloc (.cells #[.int .i64 R,.int .i64 S,nilS] 37)):=below_new (below_new (Below.refl _ _) _) _
 obtain⟨A,eA⟩:∃ A,(W1.alloc (.cells #[.slice (some x0) T c] 114)).alloc (.cells #[.int .i64 R,.int .i64 S,nilS] 37)=A:=⟨_,rfl⟩
 rw[eA] at cut qA bA ⊢
 have HB:=hidden_ (And.intro hb (And.intro qr (And.intro qc (And.intro cut (And.intro qA bA)))))
 have s1:=hb.size
 clear hb qr qc cut qA bA c0 c1 c2 c3 c4 c5 c6 c7 z0 z1 z2 o0 o1 o2 k35 eA eN hq hqT
 go_loopw [13,14] (fun i _ wr=>∃ k:Nat,k≤ml∧i=.int .i64 k∧Below W1.heap.size W1 wr∧CutA w ws T N (4*k+0) W1.heap.size wr∧∃ (La:SL) (Y:Nat→Nat→SL),Blk 37 wr (W1.heap.size+1) #[.int .i64 R,.int .i64 S,.slice La.a La.n La.c]∧TA W1.heap.size wr (.slice La.a La.n La.c) k Y (fun i j=>segA N ws (4*i+j))) (fun i _ _=>ml - (intOf i).toNat)
 case atStart=>exact⟨0,Nat.zero_le _,rfl,HB.out.2.2.2.2.2,HB.out.2.2.2.1,⟨none,0,0⟩,fun _ _=>SL.nought,HB.out.2.2.2.2.1,TA.nil _ _ _ _⟩
 case round =>
  obtain⟨k,hk,rfl,hbr,cut,La,Y,qA,tA⟩:=hrel
  obtain⟨WR,eWR⟩:∃ WR,WR=wr:=⟨_,rfl⟩
  subst eWR
  obtain⟨c0,c1,c2,c3,c4,c5,c6,c7⟩:=(HB.out.2.2.1.kept hbr).cfg
  by_cases hlt:k<ml
  ·have hlt':(k:Int)<(ml:Int):=by omega
   have b5:=below_new (Below.refl WR.heap.size WR) (.cells #[nilS,nilS,nilS,nilS] 63)
   have st:RsI w W1 ws T N k 0 R S (.slice La.a La.n La.c) Y (fun i j=>segA N ws (4*i+j)) WR.heap.size (fun _=>SL.nought) (WR.alloc (.cells #[nilS,nilS,nilS,nilS] 63)) :=
    ⟨below_then hbr b5,cut.below b5,qA.kept b5,tA.below b5,(fun g hg=>by have:=(tA.own.lt g hg).2;omega),hbr.size,Blk.new 63 WR _,fun i hi=>absurd hi (Nat.not_lt_zero _)⟩
   have HQ:Hid (∀ j,j<4→(4*k+j)*N+N≤T):=fun j hj=>by
    have:=Nat.mul_le_mul_right N (show 4*k+j+1≤4*ml by omega)
    rw[Nat.add_mul (4*k+j),Nat.one_mul] at this
    rw[HT.out]
    exact this
   have BW:Hid (Below w.heap.size w W1):=HB.out.1
   have nx:=fun (j:Nat) (hj:j<4) (s:Nat→SL) (W:World) (g:RsI w W1 ws T N k j R S (.slice La.a La.n La.c) Y (fun i j=>segA N ws (4*i+j)) WR.heap.size s W)=>next_call w ws T N (4*k+j) W1.heap.size W g.cut (HQ.out j hj) hl (below_then BW.out g.bel)
   have HST:=hidden_ st
   have NX:=hidden_ nx
   clear st nx b5 cut qA tA hbr
   go_wp2_with (first
    | (go_at_call 61;refine (NX.out 0 (by decide) _ _ HST.out).mono ?_;rintro e X0 ⟨s0,rfl,ts0,hC0,on0,k24,k52,k62⟩;obtain⟨g1,g2,st0⟩:=HST.out.step (by decide) s0 ts0 hC0 on0 k24 k52 k62;clear ts0 hC0 on0 k24 k52 k62 HST)
    | (go_at_call 61;refine (NX.out 1 (by decide) _ _ st0.out).mono ?_;rintro e X1 ⟨s1,rfl,ts1,hC1,on1,k24,k52,k62⟩;obtain⟨g3,g4,st1⟩:=st0.out.step (by decide) s1 ts1 hC1 on1 k24 k52 k62;clear ts1 hC1 on1 k24 k52 k62 st0 g1 g2)
    | (go_at_call 61;refine (NX.out 2 (by decide) _ _ st1.out).mono ?_;rintro e X2 ⟨s2,rfl,ts2,hC2,on2,k24,k52,k62⟩;obtain⟨g1,g2,st2⟩:=st1.out.step (by decide) s2 ts2 hC2 on2 k24 k52 k62;clear ts2 hC2 on2 k24 k52 k62 st1 g3 g4)
    | (go_at_call 61;refine (NX.out 3 (by decide) _ _ st2.out).mono ?_;rintro e X3 ⟨s3,rfl,ts3,hC3,on3,k24,k52,k62⟩;obtain⟨g3,g4,st3⟩:=st2.out.step (by decide) s3 ts3 hC3 on3 k24 k52 k62;obtain⟨V3,eV3⟩:∃ V,X3.setCell ⟨WR.heap.size,3,none⟩ (.slice s3.a s3.n s3.c)=V:=⟨_,rfl⟩;rw[eV3] at st3;obtain⟨fl,rw4⟩:=RsI.full st3.out;obtain⟨d0,d1,d2⟩:=st3.out.ad.c3;obtain⟨y0,y1,y2,y3⟩:=fl.c4;have b6:=below_new (Below.refl V3.heap.size V3) (.cells #[.slice s0.a s0.n s0.c,.slice s1.a s1.n s1.c,.slice s2.a s2.n s2.c,.slice s3.a s3.n s3.c] 63);have qz:Blk 63 (V3.alloc (.cells #[.slice s0.a s0.n s0.c,.slice s1.a s1.n s1.c,.slice s2.a s2.n s2.c,.slice s3.a s3.n s3.c] 63)) V3.heap.size #[.slice s0.a s0.n s0.c,.slice s1.a s1.n s1.c,.slice s2.a s2.n s2.c,.slice s3.a s3.n s3.c]:=Blk.new 63 V3 _;have qd:=st3.out.ad.kept b6;obtain⟨dd0,dd1,dd2⟩:=qd.c3;clear ts3 hC3 on3 k24 k52 k62 st2 g1 g2 fl)
    | (at_builtin;refine grwpList_layer rfl (.tmp 64) (.tmp 66) rfl W1.heap.size k _ Y (fun i j=>segA N ws (4*i+j)) (four s0 s1 s2 s3) V3.heap.size 1 rfl rfl (st3.out.ta.below b6) qz (fun j hj=>(rw4 j hj).below b6) (by omega) (Nat.le_trans st3.out.bel.size b6.size) ?_;intro v6 w6 hb6 k24 k75 ta6;obtain⟨L6,rfl⟩:=ta_slice ta6;have qd6:=k24.blk qd;have z2:=qd6.cell 2 rfl;have o2:=qd6.open_ 2;have hbl:=((below_then st3.out.bel b6).trans hb6);have cut6:=((st3.out.cut.below b6).keeps k75);clear dd0 dd1 dd2 d0 d1 d2 y0 y1 y2 y3 rw4 qz qd b6 hb6 k24 k75 st3 g3 g4 eV3))
   have on6:=Only.set (W1.heap.size+1) 2 w6 (.slice L6.a L6.n L6.c)
   have qA6:Blk 37 (w6.setCell ⟨W1.heap.size+1,2,none⟩ (.slice L6.a L6.n L6.c)) (W1.heap.size+1) #[.int .i64 R,.int .i64 S,.slice L6.a L6.n L6.c]:=set_blk qd6 2 _ rfl
   have ta7:TA W1.heap.size (w6.setCell ⟨W1.heap.size+1,2,none⟩ (.slice L6.a L6.n L6.c)) (.slice L6.a L6.n L6.c) (k+1) (upd Y k (four s0 s1 s2 s3)) (fun i j=>segA N ws (4*i+j)):=⟨(Keeps.of_only on6 qd6 (by decide)).own ta6.own,fun i hi j hj=>(ta6.lay i hi j hj).step (Keeps.of_only on6 qd6 (by decide))⟩
   have cut7:=cut6.keeps (Keeps.of_only on6 qd6 (by decide))
   have bel7:=Only.below hbl (Nat.le_succ _) hbl.size on6
   go_roundw
   case rel=>exact⟨k+1,by omega,by go_num,bel7,cut7,L6,_,qA6,ta7⟩
   case measure=>simp[intOf];omega
  ·have e:k=ml:=by omega
   subst e
   have nlt:¬(k:Int)<(k:Int):=by omega
   obtain⟨a0,a1,a2⟩:=qA.c3
   obtain⟨L',eL,nw⟩:=TA.new (m:=grshapeV k N ws) tA
   have eL':La=L':=SL.v_inj eL
   subst eL'
   have qr:=HB.out.2.1.kept hbr
   have hb:=below_then HB.out.1 hbr
   obtain⟨z0,z1,z2⟩:=qr.c3
   obtain⟨o0,o1,o2⟩:=qr.o3
   have lt2:=HB.out.2.1.lt
   clear cut hbr tA eL
   go_wp2
   obtain⟨W6,eW,q6,only,hz⟩:=set3 qr (.int .i64 R) (.int .i64 S) (.slice La.a La.n La.c)
   rw[eW]
   refine bodyPost_ret (v:=.tuple #[.agg #[.int .i64 R,.int .i64 S,.slice La.a La.n La.c],.int .i64 0]) ?_ rfl ⟨La,rfl,⟨_,(nw.only only lt2).le (by omega)⟩,Only.below hb (Nat.le_succ _) hb.size only⟩
   obtain⟨y0,y1,y2⟩:=q6.c3
   simp[results,Tryz.results38,go_sem,y0,y1,y2]
end
section
theorem prompt_false {c:Cq} {zs:List Int} {k:Nat} (hk:k<zs.length) (h:¬(0≤zs.getD k 0∧zs.getD k 0<c.v)):promptZ c zs=false:=by
 unfold promptZ
 rw[Bool.and_eq_false_iff]
 right
 rw[List.all_eq_false]
 refine⟨zs[k],List.getElem_mem hk,?_⟩
 have e:zs.getD k 0=zs[k]:=by simp[hk]
 rw[e] at h
 simp only[Bool.and_eq_true,decide_eq_true_eq]
 exact h
theorem prompt_true {c:Cq} {zs:List Int} (h:∀ j,j<zs.length→0≤zs.getD j 0∧zs.getD j 0<c.v):promptZ c zs=decide (0<zs.length):=by
 unfold promptZ
 rw[show (zs.all fun z=>decide (0≤z) && decide (z<c.v))=true by
  rw[List.all_eq_true]
  intro z hz
  obtain⟨j,hj,rfl⟩:=List.getElem_of_mem hz
  have:=h j hj
  rw[show zs.getD j 0=zs[j] by simp[hj]] at this
  simpa using this,Bool.and_true]
theorem prompt_call (c:Cq) (a:Option Addr) (n m:Nat) (zs:List Int) (w:World) (hr:Reads .i64 w a n zs) :
  Calls Tryz.prog 63 #[c.w,.slice a n m] w fun e w'=>e=.returned (.bool (promptZ c zs))∧Below w.heap.size w w':=by
 have hm:=hr.max
 have hl:=hr.len
 have hb:=below_new (Below.refl w.heap.size w) (.cells c.cs 23)
 have hr':=hr.below hb
 have q0:=Blk.new 23 w c.cs
 obtain⟨c0,c1,c2,c3,c4,c5,c6,c7⟩:=q0.cfg
 obtain⟨W,eW⟩:∃ W,w.alloc (.cells c.cs 23)=W:=⟨_,rfl⟩
 rw[eW] at hb hr' c0 c1 c2 c3 c4 c5 c6 c7
 clear q0
 go_enter Tryz.func63,Tryz.ntmps63
 go_wp2
 go_loopw [9] (fun i wr=>∃ k:Nat,k≤n∧i=.int .i64 k∧wr=W∧∀ j,j<k→0≤zs.getD j 0∧zs.getD j 0<c.v) (fun i _=>n - (intOf i).toNat)
 case atStart=>exact⟨0,Nat.zero_le _,rfl,rfl,fun j hj=>by omega⟩
 case round =>
  obtain⟨k,hk,rfl,hw,hp⟩:=hrel
  subst hw
  by_cases hlt:k<n
  ·obtain⟨x,rfl⟩:=hr.some_ (by omega)
   have cx:=hr'.cell x rfl k hlt
   have pf:=prompt_false (c:=c) (zs:=zs) (k:=k) (by omega)
   have pt:0≤zs.getD k 0→zs.getD k 0<c.v→∀ j,j<k+1→0≤zs.getD j 0∧zs.getD j 0<c.v:=fun z1 z2 j hj=>by
    by_cases e:j=k
    ·subst e;exact⟨z1,z2⟩
    ·exact hp j (by omega)
   obtain⟨Z,eZ⟩:∃ Z,zs.getD k 0=Z:=⟨_,rfl⟩
   rw[eZ] at cx pf pt
   clear eZ hp
   have HP:=hidden_ (And.intro pf pt)
   clear pf pt
   by_cases z1:Z<0
   ·go_wp2
    go_ret
    exact⟨by rw[HP.out.1 (by omega)];rfl,hb⟩
   ·have z1':0≤Z:=by omega
    by_cases z2:Z<c.v
    ·go_wp2
     go_roundw
     case rel=>exact⟨k+1,by omega,by go_num,trivial,HP.out.2 z1' z2⟩
     case measure=>simp[intOf];omega
    ·have z2':c.v≤Z:=by omega
     go_wp2
     go_ret
     exact⟨by rw[HP.out.1 (by omega)];rfl,hb⟩
  ·have e:k=n:=by omega
   subst e
   have pe:=prompt_true (c:=c) (zs:=zs) (by rw[hl];exact hp)
   rw[hl] at pe
   clear hp
   go_wp2
   go_ret
   refine⟨?_,hb⟩
   rw[pe]
   simp
end
section
theorem akcheck_call (c:Cq) (q:Aq) (zs:List Int) (w:World) (hr:Reads .i64 w q.a q.n zs) :
  Calls Tryz.prog 35 #[c.w,q.w] w fun e w'=>e=.returned (.int .i64 (checkZ c q zs))∧Below w.heap.size w w':=by
 have hb:=below_new (below_new (Below.refl w.heap.size w) (.cells c.cs 23)) (.cells q.cs 28)
 have q0:Blk 23 ((w.alloc (.cells c.cs 23)).alloc (.cells q.cs 28)) w.heap.size c.cs:=(Blk.new 23 w _).kept (below_new (Below.refl _ _) _)
 have q1:Blk 28 ((w.alloc (.cells c.cs 23)).alloc (.cells q.cs 28)) (w.heap.size+1) q.cs:=by simpa using Blk.new 28 (w.alloc (.cells c.cs 23)) q.cs
 obtain⟨c0,c1,c2,c3,c4,c5,c6,c7⟩:=q0.cfg
 obtain⟨a0,a1,a2,a3,a4,a5,a6,a7,a8⟩:=q1.ask
 have ko:∀ W,Calls Tryz.prog 62 #[c.w] W fun e w'=>e=.returned (.bool c.ok)∧Below W.heap.size W w':=config_call c.d c.h c.l c.v c.u c.x c.t c.n
 have kp:=fun W (h:Below w.heap.size w W)=>prompt_call c q.a q.n q.c zs W (hr.below h)
 have kk:=kind_call c q
 have kl:=fun W=>long_call q W (by have:=hr.max;omega)
 unfold checkZ
 obtain⟨bo,hbo⟩:∃ b,c.ok=b:=⟨_,rfl⟩
 obtain⟨bp,hbp⟩:∃ b,promptZ c zs=b:=⟨_,rfl⟩
 obtain⟨bk,hbk⟩:∃ b,kindZ c q=b:=⟨_,rfl⟩
 obtain⟨bl,hbl⟩:∃ b,longZ q=b:=⟨_,rfl⟩
 simp only[hbo,hbp,hbk,hbl] at ko kp kk kl ⊢
 clear hbo hbp hbk hbl
 cases bo<;>cases bp<;>cases bk<;>cases bl <;>
 ·go_enter Tryz.func35,Tryz.ntmps35
  go_wp2_with (first
   | (go_at_call 62;refine (ko _).mono ?_;rintro e W1 ⟨rfl,h⟩;replace q0:=q0.kept h;replace q1:=q1.kept h;replace hb:=below_then hb h;clear h ko c0 c1 c2 c3 c4 c5 c6 c7 a0 a1 a2 a3 a4 a5 a6 a7 a8;obtain⟨c0,c1,c2,c3,c4,c5,c6,c7⟩:=q0.cfg;obtain⟨a0,a1,a2,a3,a4,a5,a6,a7,a8⟩:=q1.ask)
   | (go_at_call 63;refine (kp _ hb).mono ?_;rintro e W1 ⟨rfl,h⟩;replace q0:=q0.kept h;replace q1:=q1.kept h;replace hb:=below_then hb h;clear h kp c0 c1 c2 c3 c4 c5 c6 c7 a0 a1 a2 a3 a4 a5 a6 a7 a8;obtain⟨c0,c1,c2,c3,c4,c5,c6,c7⟩:=q0.cfg;obtain⟨a0,a1,a2,a3,a4,a5,a6,a7,a8⟩:=q1.ask)
   | (go_at_call 64;refine (kk _).mono ?_;rintro e W1 ⟨rfl,h⟩;replace q0:=q0.kept h;replace q1:=q1.kept h;replace hb:=below_then hb h;clear h kk c0 c1 c2 c3 c4 c5 c6 c7 a0 a1 a2 a3 a4 a5 a6 a7 a8;obtain⟨c0,c1,c2,c3,c4,c5,c6,c7⟩:=q0.cfg;obtain⟨a0,a1,a2,a3,a4,a5,a6,a7,a8⟩:=q1.ask)
   | (go_at_call 65;refine (kl _).mono ?_;rintro e W1 ⟨rfl,h⟩;replace hb:=below_then hb h;clear h kl))
  go_ret
  exact⟨rfl,hb⟩
end
section
theorem Blk.fro9 {t:TypeId} {w:World} {b:Nat} {cs:Array Value} (h:Blk t w b cs):w.frozen? ⟨b,0,none⟩=false∧w.frozen? ⟨b,1,none⟩=false∧w.frozen? ⟨b,2,none⟩=false∧w.frozen? ⟨b,3,none⟩=false∧w.frozen? ⟨b,4,none⟩=false∧w.frozen? ⟨b,5,none⟩=false∧w.frozen? ⟨b,6,none⟩=false∧w.frozen? ⟨b,7,none⟩=false∧w.frozen? ⟨b,8,none⟩=false :=
 ⟨h.open_ 0,h.open_ 1,h.open_ 2,h.open_ 3,h.open_ 4,h.open_ 5,h.open_ 6,h.open_ 7,h.open_ 8⟩
abbrev ask0:Aq:=⟨0,none,0,0,0,0,0,0,0,0,0⟩
abbrev Aq.with (q:Aq) (a:Option Addr) (c:Nat):Aq:=⟨q.k,a,q.n,c,q.L,q.S,q.sd,q.T,q.H,q.B,q.E⟩
theorem Aq.set1 (q:Aq) (p:Option Addr) (c:Nat):q.cs.setIfInBounds 1 (.slice p q.n c)=(q.with p c).cs:=rfl
theorem own_store {q:Aq} {w W1:World} {B:Nat} {p:Option Addr} {c:Nat} {zs:List Int} {xs:List Value} (q0:Blk 28 W1 B q.cs) (q1:Blk 28 W1 (B+1) ask0.cs) (r:Reads .i64 W1 p q.n zs) (hB:w.heap.size≤B) (hb:Below w.heap.size w W1) :
  ∃ V,W1.setCell ⟨B,1,none⟩ (.slice p q.n c)=V∧Blk 28 V B (q.with p c).cs∧Blk 28 V (B+1) ask0.cs∧Reads .i64 V p q.n zs∧Below w.heap.size w V:=by
 refine⟨_,rfl,?_,?_,r.store q0.ask.2.1 _,hb.setCell hB _⟩
 ·rw[←q.set1]
  exact q0.set 1 _
 ·exact (Below.heap_setCell _ _ _ _ (by simp)).trans q1
theorem ownAsk_call (q:Aq) (zs:List Int) (w:World) (h:AkAt w q zs) (hn:q.n≤1000) :
  Calls Tryz.prog 12 #[q.w] w fun e w'=>(∃ a c,e=.returned (Aq.w (q.with a c))∧AkAt w' (q.with a c) zs)∧Below w.heap.size w w':=by
 have hb:=below_new (below_new (Below.refl w.heap.size w) (.cells q.cs 28)) (.cells ask0.cs 28)
 have q0:Blk 28 ((w.alloc (.cells q.cs 28)).alloc (.cells ask0.cs 28)) w.heap.size q.cs:=(Blk.new 28 w _).kept (below_new (Below.refl _ _) _)
 have q1:Blk 28 ((w.alloc (.cells q.cs 28)).alloc (.cells ask0.cs 28)) (w.heap.size+1) ask0.cs:=by simpa using Blk.new 28 (w.alloc (.cells q.cs 28)) ask0.cs
 have hsz:((w.alloc (.cells q.cs 28)).alloc (.cells ask0.cs 28)).heap.size=w.heap.size+2:=by simp
 obtain⟨W,eW⟩:∃ W,(w.alloc (.cells q.cs 28)).alloc (.cells ask0.cs 28)=W:=⟨_,rfl⟩
 rw[eW] at hb q0 q1 hsz
 have hr:=h.t.below hb
 have i3:=info3
 obtain⟨i0,hi,hz0,hz1,hz2⟩:∃ i,Tryz.prog.info? 3=some i∧i.zero=some (.int .i64 0)∧i.size=1∧i.bytes=8:=by
  cases e:Tryz.prog.info? 3 with
  | none=>rw[e] at i3;cases i3
  | some i=>rw[e] at i3;simp at i3;exact⟨i,rfl,i3.1,i3.2.1,i3.2.2⟩
 clear i3
 have HZ:=hidden_ hsz
 clear hsz
 have wz:w.heap.size<W.heap.size:=q0.lt
 obtain⟨a0,a1,a2,a3,a4,a5,a6,a7,a8⟩:=(q0.kept (below_new (Below.refl _ W) (.cells #[] 3))).ask
 have kf:∀ (w:World) (a:Addr) (x:Nat) (m:Mode),(store a (.float .f64 x) m).run Tryz.prog w=stored Tryz.prog w a (.float .f64 x) m:=fun w a x m=>run_store Tryz.prog w a _ m rfl
 go_enter Tryz.func12,Tryz.ntmps12
 go_wp2_with (at_builtin;refine wpList_copy rfl (.tmp 3) (.tmp 5) 25 rfl W.heap.size 3 i0 (.int .i64 0) 8 Tryz.underlying25 hi hz0 hz1 hz2 rfl _ 0 [] rfl (World.ownsRow_lit _ #[] 0 (Nat.le_refl _) (by decide) rfl) .i64 q.a q.n q.c zs rfl (hr.below (below_new (Below.refl _ _) _)) h.te (by unfold maxLen;omega) (by omega) (below_new (Below.refl _ _) _).size ?_;intro v1 W1 ho1 hg1;have hob:=ho1;obtain⟨p1,c1,rfl,r1,hb1,e1,cap1⟩:=copied (Below.refl W.heap.size W) _ ho1 hg1 hr;clear ho1 hg1 a0 a1 a2 a3 a4 a5 a6 a7 a8;have q0':=q0.kept hb1;have q1':=q1.kept hb1;have hb':=below_then hb hb1;have a1:=q0'.ask.2.1;have f1:=q0'.open_ 1;obtain⟨V,eV,q2,q3,rV,hbV⟩:=own_store (xs:=[]) (c:=c1) q0' q1' r1 (Nat.le_refl _) hb';have ne:=own_type hob q1' (by decide);clear hob;have hrV:=hidden_ (And.intro rV (And.intro e1 (And.intro cap1 (And.intro q3 (And.intro hbV ne)))));clear q0' q1' hb' q0 q1 hb hb1 hr r1 rV e1 cap1 ne hbV;obtain⟨a0,b1,a2,a3,a4,a5,a6,a7,a8⟩:=q2.ask;obtain⟨x0,x1,x2,x3,x4,x5,x6,x7,x8⟩:=q3.ask;obtain⟨g0,g1,g2,g3,g4,g5,g6,g7,g8⟩:=q3.fro9;clear q2 q3)
 obtain⟨rV,e1,cap1,q3,hbV,ne⟩:=hrV.out
 have q4:=setFrom_all q3 (Aq.cs (q.with p1 c1)).toList rfl
 have r4:Reads .i64 (setFrom (w.heap.size+1) 0 (Aq.cs (q.with p1 c1)).toList V) p1 q.n zs:=rV.setFrom (t:=3) fun x hx _=>ne x hx
 have b4:=setFrom_below (w.heap.size+1) (Nat.le_succ _) (Aq.cs (q.with p1 c1)).toList 0 w V hbV
 obtain⟨y0,y1,y2,y3,y4,y5,y6,y7,y8⟩:=Blk.ask (q:=q.with p1 c1) q4
 obtain⟨V4,eV4⟩:∃ V4,setFrom (w.heap.size+1) 0 (Aq.cs (q.with p1 c1)).toList V=V4:=⟨_,rfl⟩
 rw[eV4] at r4 b4 y0 y1 y2 y3 y4 y5 y6 y7 y8
 simp only[setFrom] at eV4
 rw[eV4]
 refine bodyPost_ret (v:=Aq.w (q.with p1 c1)) ?_ rfl ⟨⟨p1,c1,rfl,⟨h.ws,h.wL,r4,e1,cap1⟩⟩,b4⟩
 simp[results,Tryz.results12,go_sem,y0,y1,y2,y3,y4,y5,y6,y7,y8]
end
end Go.Proofs.YtbkjhfmehemgpaaGreat

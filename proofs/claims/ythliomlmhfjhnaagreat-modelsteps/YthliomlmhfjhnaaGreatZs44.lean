/- Texts put together. -/
import Derived.Test.YthliomlmhfjhnaaGreatZs43
namespace Go.Proofs.YthliomlmhfjhnaaGreat
set_option maxRecDepth 20000
set_option maxHeartbeats 16000000
open Go.ChangeShapes Go.WideShapes Go.ChangeAt Go.RowKit
set_option linter.unusedVariables false
set_option linter.unusedSimpArgs false
theorem app_grid {WB W W2:World}(hp:Below WB.heap.size WB W){v v2:Value}{n d c:Nat}{A:Nat→Option Addr}{C:Nat→Nat}{R:Nat→List Int}(og:OwnGrid WB.heap.size W v n A C R)(hlen:(R n).length=d)(hd:0<d){p:Option Addr}(rt:Reads .i64 WB p d (R n))
  (ho:W2.ownsRow WB.heap.size 34 1 v2 (n+1) (heads A C R n++[.slice p d c])) (hg:(W.alloc (.cells #[.slice p d c] 34)).grownBy W2 v.ownBlock) (hs:Stays (W.alloc (.cells #[.slice p d c] 34)) v v2) :
  ∃ u k,v2=.slice u (n+1) k∧Grid W2 u (n+1) (fun r=>if r=n then p else A r) (fun r=>if r=n then c else C r) R:=by
 have bn:=bNw (Below.refl W.heap.size W) (.cells #[.slice p d c] 34)
 refine ((og.below bn).app (p:=p) (c:=c) (V:=.slice p d c) (by rw[hlen]) ?_ ?_ ho hg hs).grid
 ·rw[hlen];exact (rt.below hp).below bn
 ·intro _ x hx g hg' e
  have c0:=rt.cell x hx 0 hd
  have lt:x.block<WB.heap.size:=by
   have:=World.block_lt_of_cell? WB _ c0
   simpa [Addr.add] using this
  have:=(og.own.lt g hg').1
  omega
theorem none_of {k:IntKind}{w:World}{a:Option Addr}{n c:Nat}{zs:List Int}(h:Reads k w a n zs)(hn:0<n):a=none→c=0:=fun e=>by
 obtain⟨x,hx⟩:=h.some_ hn
 rw[e] at hx
 cases hx
theorem map_get (zs:List Int)(j:Nat)(hj:j<zs.length):(zs.map (Value.int .i64))[j]? = some (.int .i64 (zs.getD j 0)):=by
 simp[hj]
theorem sliceOne17 (a:Option Addr)(n c:Nat):∀ u∈[Value.slice a n c],u.oneCell'=true:=by
 intro u hu
 simp at hu
 subst hu
 rfl
theorem partL_last (P:Nat→List Int)(n f d:Nat)(last:List Int):partL P n f d last n=last:=by unfold partL;rw[if_neg (by omega)]
theorem partL_length (P:Nat→List Int)(n f d:Nat)(last:List Int)(hP:∀ r,r<n→f+d≤(P r).length)(hl:last.length=d){r:Nat}(hr:r<n+1):(partL P n f d last r).length=d:=by
 unfold partL
 by_cases h:r<n
 ·rw[if_pos h]
  have:=hP r h
  simp
  omega
 ·rw[if_neg h,hl]
theorem rgraft_no (M:Md)(hr0:M.r=0)(i j:Nat)(La s s':SL)(w:World)(ya:Option Addr)(yc:Nat)(y:List Int)(ha:Option Addr)(hc:Nat)(hh:List Int)(hy:Reads .i64 w ya M.D y)(ly:M.D≤yc) :
  Calls Tryz.prog 66 #[.slice ya M.D yc,.slice s.a s.n s.c,.slice s'.a s'.n s'.c,.agg #[.int .i64 M.r,.int .i64 M.s,.slice La.a La.n La.c],.slice ha M.D hc] w fun e w'=>(∃ a c,e=.returned (.slice a M.D c)∧Reads .i64 w' a M.D (graftL M i j y hh)∧M.D≤c)∧Below w.heap.size w w':=by
 have hb:=bNw (Below.refl w.heap.size w) (.cells #[.int .i64 M.r,.int .i64 M.s,.slice La.a La.n La.c] 30)
 have eg:graftL M i j y hh=y:=by unfold graftL;rw[if_pos hr0]
 have z:(M.r==0)=true:=by simp[hr0]
 have hy2:=hy.below hb
 rw[eg]
 clear eg hr0
 go_enter Tryz.func66,Tryz.ntmps66
 go_wp2
 go_ret
 exact⟨⟨_,_,rfl,hy2,ly⟩,hb⟩
theorem rgraft_yes (M:Md)(F:MdFit M)(hr0:M.r≠0)(R:Nat)(A:AdFit M R)(i:Nat)(hi:i<M.m.ln)(j:Nat)(hj:j<3)(La s s':SL)(w:World)(hs:IsS w s (M.a.f i j))(hs':IsS w s' (M.a.f i (j+1)))(ya:Option Addr)(yc:Nat)(y:List Int)(ha:Option Addr)(hc:Nat)(hh:List Int)(hy:Reads .i64 w ya M.D y)(hr:Reads .i64 w ha M.D hh) :
  Calls Tryz.prog 66 #[.slice ya M.D yc,.slice s.a s.n s.c,.slice s'.a s'.n s'.c,.agg #[.int .i64 M.r,.int .i64 M.s,.slice La.a La.n La.c],.slice ha M.D hc] w fun e w'=>(∃ a c,e=.returned (.slice a M.D c)∧Reads .i64 w' a M.D (graftL M i j y hh)∧M.D≤c)∧Below w.heap.size w w':=by
 have hb:=bNw (Below.refl w.heap.size w) (.cells #[.int .i64 M.r,.int .i64 M.s,.slice La.a La.n La.c] 30)
 have eg:graftL M i j y hh=plusL y (applR (M.a.f i j) (M.a.f i (j+1)) M.r M.s hh):=by unfold graftL;rw[if_neg hr0]
 have z:(M.r==0)=false:=by simp[hr0]
 have hy2:=hy.below hb
 have kA:=rd_apply F A hi j hj s s' _ (hs.below hb) (hs'.below hb) ha hc hh (hr.below hb)
 have kD:=fun (W:World) a0 c0 xs a1 c1 ys=>rd_add F W a0 c0 xs a1 c1 ys
 rw[eg]
 clear eg hr0
 go_enter Tryz.func66,Tryz.ntmps66
 go_wp2_with (first
  | (go_at_call 105;refine kA.mono ?_;rintro e W1 ⟨⟨a1,c1,rfl,r1⟩,h1⟩;clear kA;replace hb:=bTn hb h1;replace hy2:=hy2.below h1;clear h1)
  | (go_at_call 70;refine (kD _ _ _ _ _ _ _ hy2 r1).mono ?_;rintro e W2 ⟨⟨a2,c2,rfl,r2,l2,-⟩,h2⟩;clear kD;replace hb:=bTn hb h2;clear h2))
 go_ret
 exact⟨⟨_,_,rfl,r2,l2⟩,hb⟩
theorem rgraft_call (M:Md)(F:MdFit M)(hok:M.r≠0→∃ R,AdFit M R)(i:Nat)(hi:i<M.m.ln)(j:Nat)(hj:j<3)(La s s':SL)(w:World)(hs:M.r≠0→IsS w s (M.a.f i j)∧IsS w s' (M.a.f i (j+1)))(ya:Option Addr)(yc:Nat)(y:List Int)(ha:Option Addr)(hc:Nat)(hh:List Int)(hy:Reads .i64 w ya M.D y)(ly:M.D≤yc)(hr:Reads .i64 w ha M.D hh) :
  Calls Tryz.prog 66 #[.slice ya M.D yc,.slice s.a s.n s.c,.slice s'.a s'.n s'.c,.agg #[.int .i64 M.r,.int .i64 M.s,.slice La.a La.n La.c],.slice ha M.D hc] w fun e w'=>(∃ a c,e=.returned (.slice a M.D c)∧Reads .i64 w' a M.D (graftL M i j y hh)∧M.D≤c)∧Below w.heap.size w w':=by
 by_cases hr0:M.r=0
 ·exact rgraft_no M hr0 i j La s s' w ya yc y ha hc hh hy ly
 ·obtain⟨R,A⟩:=hok hr0
  exact rgraft_yes M F hr0 R A i hi j hj La s s' w (hs hr0).1 (hs hr0).2 ya yc y ha hc hh hy hr
theorem mdlayer_walk (M:Md)(E L N O:SL)(Y U D:Nat→Nat→SL)(La:SL)(Ya:Nat→Nat→SL)(G:Nat→SL)(x0:Addr)(F:MdFit M)(hok:M.r≠0→∃ R,AdFit M R)(i:Nat)(hi:i<M.m.ln)(p:Int)(hp:0≤p∧p≤1000)(w:World)(hM:ModAt w E L N O Y U D M.m)(hx0:L.a=some x0)(hG:M.r≠0→∀ j,j<4→IsS w (G j) (M.a.f i j))
  (pa:Option Addr) (n pc:Nat) (A:Nat→Option Addr) (C:Nat→Nat) (P:Nat→List Int) (hP:Grid w pa n A C P) (hC:∀ r,r<n→(P r).length≤C r) (hW:∀ r,r<n→(P r).length=2*M.m.ln*M.D) (hn:n≤100)
  (ax:Option Addr) (cx:Nat) (x:List Int) (hx:Reads .i64 w ax M.D x) :
  Calls Tryz.prog 33 #[.agg #[.int .i64 M.d,.int .i64 M.h,.int .i64 M.l,.int .i64 M.v,.int .i64 M.u,.int .i64 M.x,.int .i64 M.t,.int .i64 M.n,.slice E.a E.n E.c,.slice (some x0) M.m.ln L.c,.slice N.a N.n N.c,.slice O.a O.n O.c],.int .i64 i,.agg #[.int .i64 M.r,.int .i64 M.s,.slice La.a La.n La.c],.agg #[.slice (G 0).a (G 0).n (G 0).c,.slice (G 1).a (G 1).n (G 1).c,.slice (G 2).a (G 2).n (G 2).c,.slice (G 3).a (G 3).n (G 3).c],.slice pa n pc,.int .i64 p,.slice ax M.D cx] w fun e w'=>(∃ a c b k,e=.returned (.tuple #[.slice a M.D c,.slice b (M.D+M.D) k])∧Reads .i64 w' a M.D (wkL M i x (oL M p P n i x))∧Reads .i64 w' b (M.D+M.D) (kL M p i x++vL M i x)∧∀ x,a=some x→w.heap.size≤x.block)∧Below w.heap.size w w':=by
 obtain⟨i0,hi2,hz0,hz1,hz2⟩:=info_parts info2
 obtain⟨j0,hj,hy0,hy1,hy2⟩:=info_parts info34
 have d0:=F.d0
 have d1:=F.d1
 have l1:=F.l1
 have hD0:0<M.D:=by omega
 have hb1:=bNw (bNw (bNw (Below.refl w.heap.size w) (.cells #[.int .i64 M.d,.int .i64 M.h,.int .i64 M.l,.int .i64 M.v,.int .i64 M.u,.int .i64 M.x,.int .i64 M.t,.int .i64 M.n,.slice E.a E.n E.c,.slice (some x0) M.m.ln L.c,.slice N.a N.n N.c,.slice O.a O.n O.c] 27)) (.cells #[.int .i64 M.r,.int .i64 M.s,.slice La.a La.n La.c] 30)) (.cells #[.slice (G 0).a (G 0).n (G 0).c,.slice (G 1).a (G 1).n (G 1).c,.slice (G 2).a (G 2).n (G 2).c,.slice (G 3).a (G 3).n (G 3).c] 61)
 have q1:Blk 27 (((w.alloc (.cells #[.int .i64 M.d,.int .i64 M.h,.int .i64 M.l,.int .i64 M.v,.int .i64 M.u,.int .i64 M.x,.int .i64 M.t,.int .i64 M.n,.slice E.a E.n E.c,.slice (some x0) M.m.ln L.c,.slice N.a N.n N.c,.slice O.a O.n O.c] 27)).alloc (.cells #[.int .i64 M.r,.int .i64 M.s,.slice La.a La.n La.c] 30)).alloc (.cells #[.slice (G 0).a (G 0).n (G 0).c,.slice (G 1).a (G 1).n (G 1).c,.slice (G 2).a (G 2).n (G 2).c,.slice (G 3).a (G 3).n (G 3).c] 61)) w.heap.size #[.int .i64 M.d,.int .i64 M.h,.int .i64 M.l,.int .i64 M.v,.int .i64 M.u,.int .i64 M.x,.int .i64 M.t,.int .i64 M.n,.slice E.a E.n E.c,.slice (some x0) M.m.ln L.c,.slice N.a N.n N.c,.slice O.a O.n O.c]:=(Blk.new 27 w _).kept (bNw (bNw (Below.refl _ _) _) _)
 have q2:Blk 30 (((w.alloc (.cells #[.int .i64 M.d,.int .i64 M.h,.int .i64 M.l,.int .i64 M.v,.int .i64 M.u,.int .i64 M.x,.int .i64 M.t,.int .i64 M.n,.slice E.a E.n E.c,.slice (some x0) M.m.ln L.c,.slice N.a N.n N.c,.slice O.a O.n O.c] 27)).alloc (.cells #[.int .i64 M.r,.int .i64 M.s,.slice La.a La.n La.c] 30)).alloc (.cells #[.slice (G 0).a (G 0).n (G 0).c,.slice (G 1).a (G 1).n (G 1).c,.slice (G 2).a (G 2).n (G 2).c,.slice (G 3).a (G 3).n (G 3).c] 61)) (w.heap.size+1) #[.int .i64 M.r,.int .i64 M.s,.slice La.a La.n La.c]:=(Blk.new_at 30 (w.alloc _) _ _ (by simp)).kept (bNw (Below.refl _ _) _)
 have q3:Blk 61 (((w.alloc (.cells #[.int .i64 M.d,.int .i64 M.h,.int .i64 M.l,.int .i64 M.v,.int .i64 M.u,.int .i64 M.x,.int .i64 M.t,.int .i64 M.n,.slice E.a E.n E.c,.slice (some x0) M.m.ln L.c,.slice N.a N.n N.c,.slice O.a O.n O.c] 27)).alloc (.cells #[.int .i64 M.r,.int .i64 M.s,.slice La.a La.n La.c] 30)).alloc (.cells #[.slice (G 0).a (G 0).n (G 0).c,.slice (G 1).a (G 1).n (G 1).c,.slice (G 2).a (G 2).n (G 2).c,.slice (G 3).a (G 3).n (G 3).c] 61)) (w.heap.size+1+1) #[.slice (G 0).a (G 0).n (G 0).c,.slice (G 1).a (G 1).n (G 1).c,.slice (G 2).a (G 2).n (G 2).c,.slice (G 3).a (G 3).n (G 3).c]:=Blk.new_at 61 ((w.alloc _).alloc _) _ _ (by simp)
 have kr:=fun (W:World) (hb:Below w.heap.size w W) a c xs=>rd_rms F (Y i 0) _ (F.f0 i hi) W (((hM.lay i hi).f 0 (by omega)).below hb) a c xs
 have kq:=fun (W:World) (hb:Below w.heap.size w W) a c xs=>rd_mat F hi 1 (by omega) (by omega) (Y i 1) W (((hM.lay i hi).f 1 (by omega)).below hb) a c xs
 have kk:=fun (W:World) (hb:Below w.heap.size w W) a c xs=>rd_mat F hi 2 (by omega) (by omega) (Y i 2) W (((hM.lay i hi).f 2 (by omega)).below hb) a c xs
 have kv:=fun (W:World) (hb:Below w.heap.size w W) a c xs=>rd_mat F hi 3 (by omega) (by omega) (Y i 3) W (((hM.lay i hi).f 3 (by omega)).below hb) a c xs
 have ko:=fun (W:World) (hb:Below w.heap.size w W) a c xs=>rd_mat F hi 4 (by omega) (by omega) (Y i 4) W (((hM.lay i hi).f 4 (by omega)).below hb) a c xs
 have k1:=fun (W:World) (hb:Below w.heap.size w W) ya yc y ha hc hh=>rgraft_call M F hok i hi 0 (by omega) La (G 0) (G 1) W (fun h=>⟨(hG h 0 (by omega)).below hb,(hG h 1 (by omega)).below hb⟩) ya yc y ha hc hh
 have k2:=fun (W:World) (hb:Below w.heap.size w W) ya yc y ha hc hh=>rgraft_call M F hok i hi 2 (by omega) La (G 2) (G 3) W (fun h=>⟨(hG h 2 (by omega)).below hb,(hG h 3 (by omega)).below hb⟩) ya yc y ha hc hh
 have k3:=fun (W:World) a c xs=>rd_heads F p hp W a c xs
 have k4:=k3
 have kr2:=fun (W:World) (hb:Below w.heap.size w W) a c xs=>rd_rms F (Y i 5) _ (F.f5 i hi) W (((hM.lay i hi).f 5 (by omega)).below hb) a c xs
 have kx:=fun (W:World) (hb:Below w.heap.size w W) a c xs=>rd_mix F hi (Y i 6) (Y i 7) (Y i 8) (U i) (D i) W (((hM.lay i hi).f 6 (by omega)).below hb) ((hM.lay i hi).u.below hb) ((hM.lay i hi).d.below hb) a c xs
 have ka:=fun (W:World) a0 c0 xs a1 c1 ys=>rd_add F W a0 c0 xs a1 c1 ys
 have kb:=ka
 have hmul:(i+1)*M.D≤M.m.ln*M.D:=Nat.mul_le_mul_right _ (by omega)
 rw[Nat.succ_mul] at hmul
 obtain⟨f1,ef1⟩:∃ f1,2*i*M.D=f1:=⟨_,rfl⟩
 obtain⟨f2,ef2⟩:∃ f2,f1+M.D=f2:=⟨_,rfl⟩
 have e1:f1=2*(i*M.D):=by rw[←ef1,Nat.mul_assoc]
 have e2:2*M.m.ln*M.D=2*(M.m.ln*M.D):=Nat.mul_assoc _ _ _
 have hw8:M.m.ln*M.D≤2*8:=Nat.mul_le_mul l1 d1
 have w1:∀ r,r<n→f1+M.D≤(P r).length:=fun r hr=>by rw[hW r hr];omega
 have w2:∀ r,r<n→f2+M.D≤(P r).length:=fun r hr=>by rw[hW r hr];omega
 have ip:2*(i:Int)*M.d=(f1:Int):=by rw[F.eD,←ef1,Int.natCast_mul,Int.natCast_mul];rfl
 have iq:(f1:Int)+M.d=(f2:Int):=by rw[F.eD];omega
 have hf1:f1≤32:=by omega
 have hf2:f2≤40:=by omega
 have hi2':i≤2:=by omega
 have hkl:=kL_length F p i x
 have hvl:=vL_length F hi x
 have kp1:∀ W,Below w.heap.size w W→Calls Tryz.prog 68 #[.slice pa n pc,.int .i64 f1,.int .i64 M.d] W fun e w'=>(∃ v,e=.returned v∧OwnGrid W.heap.size w' v n (cutA A f1) (fun r=>C r-f1) (keysL M p P n i x))∧Below W.heap.size W w':=fun W hb=>by
  have:=parts_md pa n pc A C P f1 M.D (kL M p i x) W (hP.below hb) hC hD0 w1 (by omega)
  rw[←F.eD] at this
  unfold keysL
  rw[ef1]
  exact this
 have kp2:∀ W,Below w.heap.size w W→Calls Tryz.prog 68 #[.slice pa n pc,.int .i64 f2,.int .i64 M.d] W fun e w'=>(∃ v,e=.returned v∧OwnGrid W.heap.size w' v n (cutA A f2) (fun r=>C r-f2) (valsL M P n i x))∧Below W.heap.size W w':=fun W hb=>by
  have:=parts_md pa n pc A C P f2 M.D (vL M i x) W (hP.below hb) hC hD0 w2 (by omega)
  rw[←F.eD] at this
  unfold valsL
  rw[ef1,ef2]
  exact this
 have lk:∀ r,r<n+1→(keysL M p P n i x r).length=M.D:=fun r hr=>by unfold keysL;rw[ef1];exact partL_length P n f1 M.D _ w1 hkl hr
 have lv:∀ r,r<n+1→(valsL M P n i x r).length=M.D:=fun r hr=>by unfold valsL;rw[ef1,ef2];exact partL_length P n f2 M.D _ w2 hvl hr
 have k5:∀ (W:World) (u1:Option Addr) (c1:Nat) (A1:Nat→Option Addr) (C1:Nat→Nat) (u2:Option Addr) (c2:Nat) (A2:Nat→Option Addr) (C2:Nat→Nat) (a:Option Addr) (c:Nat),Grid W u1 (n+1) A1 C1 (keysL M p P n i x)→(∀ r,r<n+1→M.D≤C1 r)→Grid W u2 (n+1) A2 C2 (valsL M P n i x)→(∀ r,r<n+1→M.D≤C2 r)→Reads .i64 W a M.D (qL M p i x)→M.D≤c →
   Calls Tryz.prog 69 #[.slice a M.D c,.slice u1 (n+1) c1,.slice u2 (n+1) c2,.int .i64 M.h] W fun e w'=>(∃ a c,e=.returned (.tuple #[.slice a M.D c,.int .i64 0])∧Reads .i64 w' a M.D (oL M p P n i x)∧M.D≤c)∧Below W.heap.size W w' :=
  fun W u1 c1 A1 C1 u2 c2 A2 C2 a c g1 hc1 g2 hc2 hq hc=>rd_all F n hn W a c _ hq hc u1 c1 A1 C1 _ g1 (fun r hr=>by rw[lk r hr];exact hc1 r hr) u2 c2 A2 C2 _ g2 (fun r hr=>by rw[lv r hr];exact hc2 r hr) (fun r hr=>⟨lk r hr,lv r hr⟩)
 have fk:(keysL M p P n i x n).length=M.D:=lk n (by omega)
 have fv:(valsL M P n i x n).length=M.D:=lv n (by omega)
 have kl:keysL M p P n i x n=kL M p i x:=partL_last _ _ _ _ _
 have vl:valsL M P n i x n=vL M i x:=partL_last _ _ _ _ _
 have cp1:∀ c10,M.D≤c10→∀ r,r<n+1→M.D≤(fun r=>if r=n then c10 else C r-f1) r:=fun c10 h r hr=>by
  dsimp only
  split
  ·exact h
  ·have:=hC r (by omega);have:=w1 r (by omega);omega
 have cp2:∀ c10,M.D≤c10→∀ r,r<n+1→M.D≤(fun r=>if r=n then c10 else C r-f2) r:=fun c10 h r hr=>by
  dsimp only
  split
  ·exact h
  ·have:=hC r (by omega);have:=w2 r (by omega);omega
 clear hmul ef1 ef2 e1 e2 hw8 w1 w2 lk lv hP hC hW l1
 go_enter Tryz.func33,Tryz.ntmps33
 go_wp2
 refine lz_region M E L N O Y w.heap.size i x0 U D (hM.below hb1) hx0 hi q1 (by kernel_rfl) rfl ⟨_,rfl,rfl,rfl,rfl,by kernel_rfl⟩ ⟨_,rfl,rfl,rfl,rfl,by kernel_rfl⟩ ⟨_,rfl,rfl,rfl,rfl,by kernel_rfl⟩ ⟨_,rfl,rfl,rfl,rfl,by kernel_rfl⟩ ⟨_,rfl,rfl,rfl,rfl,by kernel_rfl⟩ ⟨_,rfl,rfl,rfl,rfl,by kernel_rfl⟩ ⟨_,rfl,rfl,rfl,rfl,by kernel_rfl⟩ ⟨_,rfl,rfl,rfl,rfl,by kernel_rfl⟩ ⟨_,rfl,rfl,rfl,rfl,by kernel_rfl⟩ ⟨_,rfl,rfl,rfl,rfl,by kernel_rfl⟩ ⟨_,rfl,rfl,rfl,rfl,by kernel_rfl⟩ rfl rfl (Nat.le_of_ble_eq_true rfl) ?_
 intro a W2 cb lb hs hd hkp e16 e17 hb2 qc ql
 have ep:=fPu [39,40,41,42,43,44,45,16,17] hs hd (fun s h=>hkp s (fun j hj e=>h (by
  rcases (show j=0∨j=1∨j=2∨j=3∨j=4∨j=5∨j=6∨j=7∨j=8∨j=9∨j=10 by omega) with rfl|rfl|rfl|rfl|rfl|rfl|rfl|rfl|rfl|rfl|rfl<;>first|(simp only[lzD,Option.some.injEq] at e;subst e;simp;done)|(simp[lzD] at e))))
 simp only[List.foldl] at ep
 rw[e16,e17] at ep
 clear hs hd hkp e16 e17
 generalize a.tmps.getD 39 undef=g39,a.tmps.getD 40 undef=g40,a.tmps.getD 41 undef=g41,a.tmps.getD 42 undef=g42,a.tmps.getD 43 undef=g43,a.tmps.getD 44 undef=g44,a.tmps.getD 45 undef=g45 at ep
 simp only[Act.put,List.setIfInBounds_toArray,List.set_cons_succ,List.set_cons_zero] at ep
 subst ep
 have hb:=bTn hb1 hb2
 have hx2:=hx.below hb
 have QC:=hdn qc
 have QL:=hdn ql
 have QA:=hdn (q2.kept hb2)
 have QG:=hdn (q3.kept hb2)
 have yy0:=ql.cell 0 (v:=.slice (Y i 0).a (Y i 0).n (Y i 0).c) rfl
 have zz0:=qc.cell 0 (v:=.int .i64 M.d) rfl
 clear qc ql hb1 hb2 q1 q2 q3 hx hM hG
 go_wp2_with (first
  | (go_at_call 34;refine (kr _ hb _ _ _ hx2).mono ?_;rintro e W3 ⟨⟨a3,c3,rfl,r3,-⟩,h3⟩;have hb3:=bTn hb h3;have QC':=hdn (QC.out.kept h3);clear QC;have QC:=QC';clear QC';have QL':=hdn (QL.out.kept h3);clear QL;have QL:=QL';clear QL';have QA':=hdn (QA.out.kept h3);clear QA;have QA:=QA';clear QA';have QG':=hdn (QG.out.kept h3);clear QG;have QG:=QG';clear QG';replace hx2:=hx2.below h3;have y1:=QL.out.cell 1 (v:=.slice (Y i 1).a (Y i 1).n (Y i 1).c) rfl;clear h3 kr)
  | (go_at_call 51;refine (kq _ hb3 _ _ _ r3).mono ?_;rintro e W4 ⟨⟨a4,c4,rfl,r4,l4⟩,h4⟩;have hb4:=bTn hb3 h4;have QC':=hdn (QC.out.kept h4);clear QC;have QC:=QC';clear QC';have QL':=hdn (QL.out.kept h4);clear QL;have QL:=QL';clear QL';have QA':=hdn (QA.out.kept h4);clear QA;have QA:=QA';clear QA';have QG':=hdn (QG.out.kept h4);clear QG;have QG:=QG';clear QG';replace r3:=r3.below h4;replace hx2:=hx2.below h4;have y2:=QL.out.cell 2 (v:=.slice (Y i 2).a (Y i 2).n (Y i 2).c) rfl;clear h4 kq y1)
  | (go_at_call 51;refine (kk _ hb4 _ _ _ r3).mono ?_;rintro e W5 ⟨⟨a5,c5,rfl,r5,l5⟩,h5⟩;have hb5:=bTn hb4 h5;have QC':=hdn (QC.out.kept h5);clear QC;have QC:=QC';clear QC';have QL':=hdn (QL.out.kept h5);clear QL;have QL:=QL';clear QL';have QA':=hdn (QA.out.kept h5);clear QA;have QA:=QA';clear QA';have QG':=hdn (QG.out.kept h5);clear QG;have QG:=QG';clear QG';replace r3:=r3.below h5;replace hx2:=hx2.below h5;replace r4:=r4.below h5;have y3:=QL.out.cell 3 (v:=.slice (Y i 3).a (Y i 3).n (Y i 3).c) rfl;clear h5 kk y2)
  | (go_at_call 51;refine (kv _ hb5 _ _ _ r3).mono ?_;rintro e W6 ⟨⟨a6,c6,rfl,r6,l6⟩,h6⟩;have hb6:=bTn hb5 h6;have QC':=hdn (QC.out.kept h6);clear QC;have QC:=QC';clear QC';have QL':=hdn (QL.out.kept h6);clear QL;have QL:=QL';clear QL';have QA':=hdn (QA.out.kept h6);clear QA;have QA:=QA';clear QA';have QG':=hdn (QG.out.kept h6);clear QG;have QG:=QG';clear QG';replace r3:=r3.below h6;replace hx2:=hx2.below h6;replace r4:=r4.below h6;replace r5:=r5.below h6;have g0:=QG.out.cell 0 (v:=.slice (G 0).a (G 0).n (G 0).c) rfl;have g1:=QG.out.cell 1 (v:=.slice (G 1).a (G 1).n (G 1).c) rfl;have s0:=QA.out.cell 0 (v:=.int .i64 M.r) rfl;have s1:=QA.out.cell 1 (v:=.int .i64 M.s) rfl;have s2:=QA.out.cell 2 (v:=.slice La.a La.n La.c) rfl;clear h6 kv y3)
  | (go_at_call 66;refine (k1 _ hb6 _ _ _ _ _ _ r4 l4 r3).mono ?_;rintro e W7 ⟨⟨a7,c7,rfl,r7,l7⟩,h7⟩;have hb7:=bTn hb6 h7;have QC':=hdn (QC.out.kept h7);clear QC;have QC:=QC';clear QC';have QL':=hdn (QL.out.kept h7);clear QL;have QL:=QL';clear QL';have QA':=hdn (QA.out.kept h7);clear QA;have QA:=QA';clear QA';have QG':=hdn (QG.out.kept h7);clear QG;have QG:=QG';clear QG';replace r3:=r3.below h7;replace hx2:=hx2.below h7;replace r5:=r5.below h7;replace r6:=r6.below h7;have g2:=QG.out.cell 2 (v:=.slice (G 2).a (G 2).n (G 2).c) rfl;have g3:=QG.out.cell 3 (v:=.slice (G 3).a (G 3).n (G 3).c) rfl;have t0:=QA.out.cell 0 (v:=.int .i64 M.r) rfl;have t1:=QA.out.cell 1 (v:=.int .i64 M.s) rfl;have t2:=QA.out.cell 2 (v:=.slice La.a La.n La.c) rfl;clear h7 k1 r4 g0 g1 s0 s1 s2)
  | (go_at_call 66;refine (k2 _ hb7 _ _ _ _ _ _ r6 l6 r3).mono ?_;rintro e W8 ⟨⟨a8,c8,rfl,r8,l8⟩,h8⟩;have hb8:=bTn hb7 h8;have QC':=hdn (QC.out.kept h8);clear QC;have QC:=QC';clear QC';have QL':=hdn (QL.out.kept h8);clear QL;have QL:=QL';clear QL';replace hx2:=hx2.below h8;replace r5:=r5.below h8;replace r7:=r7.below h8;have z8:=QC.out.cell 1 (v:=.int .i64 M.h) rfl;clear h8 k2 r3 r6 g2 g3 t0 t1 t2 QA QG)
  | (go_at_call 67;refine (k3 _ _ _ _ r7 l7).mono ?_;rintro e W9 ⟨⟨a9,c9,rfl,r9,l9⟩,h9⟩;have hb9:=bTn hb8 h9;have QC':=hdn (QC.out.kept h9);clear QC;have QC:=QC';clear QC';have QL':=hdn (QL.out.kept h9);clear QL;have QL:=QL';clear QL';replace hx2:=hx2.below h9;replace r5:=r5.below h9;replace r8:=r8.below h9;have z9:=QC.out.cell 1 (v:=.int .i64 M.h) rfl;clear h9 k3 r7 z8)
  | (go_at_call 67;refine (k4 _ _ _ _ r5 l5).mono ?_;rintro e W10 ⟨⟨a10,c10,rfl,r10,l10⟩,h10⟩;have hb10:=bTn hb9 h10;have QC':=hdn (QC.out.kept h10);clear QC;have QC:=QC';clear QC';have QL':=hdn (QL.out.kept h10);clear QL;have QL:=QL';clear QL';replace hx2:=hx2.below h10;replace r8:=r8.below h10;replace r9:=r9.below h10;clear h10 k4 r5 z9)
  | (go_at_call 68;refine (kp1 _ hb10).mono ?_;rintro e W11 ⟨⟨v11,rfl,og11⟩,h11⟩;clear kp1)
  | (at_builtin;refine wpList_append_where rfl (.tmp 117) (.tmp 119) 31 rfl W10.heap.size 34 j0 (.slice none 0 0) 24 Tryz.underlying31 hj hy0 hy1 hy2 rfl _ n _ rfl (og11.own.alloc _) ⟨_,0,none⟩ 1 (.slice a10 M.D c10) rfl (one_new _ _ _) (sliceOne17 _ _ _) (by unfold maxLen;omega) (by omega) (bNw h11 _).size ?_;intro v12 W12 ho12 hg12 hs12;have bA12:=below_append (bNw h11 _) (og11.own.alloc _) hg12;obtain⟨u12,k12,rfl,G12⟩:=app_grid h11 og11 fk hD0 (by rw[kl];exact r10) ho12 hg12 hs12;have hb12:=bTn hb10 bA12;have QC':=hdn (QC.out.kept bA12);clear QC;have QC:=QC';clear QC';have QL':=hdn (QL.out.kept bA12);clear QL;have QL:=QL';clear QL';replace hx2:=hx2.below bA12;replace r8:=r8.below bA12;replace r9:=r9.below bA12;replace r10:=r10.below bA12;have hb12':=hb12;clear bA12 ho12 hg12 hs12 og11 h11)
  | (go_at_call 68;refine (kp2 _ hb12).mono ?_;rintro e W13 ⟨⟨v13,rfl,og13⟩,h13⟩;clear kp2)
  | (at_builtin;refine wpList_append_where rfl (.tmp 129) (.tmp 131) 31 rfl W12.heap.size 34 j0 (.slice none 0 0) 24 Tryz.underlying31 hj hy0 hy1 hy2 rfl _ n _ rfl (og13.own.alloc _) ⟨_,0,none⟩ 1 (.slice a8 M.D c8) rfl (one_new _ _ _) (sliceOne17 _ _ _) (by unfold maxLen;omega) (by omega) (bNw h13 _).size ?_;intro v14 W14 ho14 hg14 hs14;have bA14:=below_append (bNw h13 _) (og13.own.alloc _) hg14;obtain⟨u14,k14,rfl,G14⟩:=app_grid h13 og13 fv hD0 (by rw[vl];exact r8) ho14 hg14 hs14;have hb14:=bTn hb12 bA14;have QC':=hdn (QC.out.kept bA14);clear QC;have QC:=QC';clear QC';have QL':=hdn (QL.out.kept bA14);clear QL;have QL:=QL';clear QL';replace hx2:=hx2.below bA14;replace r8:=r8.below bA14;replace r9:=r9.below bA14;replace r10:=r10.below bA14;replace G12:=G12.below bA14;have z14:=QC.out.cell 1 (v:=.int .i64 M.h) rfl;clear bA14 ho14 hg14 hs14 og13 h13)
  | (go_at_call 69;refine (k5 _ _ _ _ _ _ _ _ _ _ _ G12 (cp1 _ l10) G14 (cp2 _ l8) r9 l9).mono ?_;rintro e W15 ⟨⟨a15,c15,rfl,r15,l15⟩,h15⟩;have hb15:=bTn hb14 h15;have QC':=hdn (QC.out.kept h15);clear QC;have QC:=QC';clear QC';have QL':=hdn (QL.out.kept h15);clear QL;have QL:=QL';clear QL';replace hx2:=hx2.below h15;replace r8:=r8.below h15;replace r10:=r10.below h15;have y4:=QL.out.cell 4 (v:=.slice (Y i 4).a (Y i 4).n (Y i 4).c) rfl;clear h15 k5 r9 G12 G14 z14)
  | (go_at_call 51;refine (ko _ hb15 _ _ _ r15).mono ?_;rintro e W16 ⟨⟨a16,c16,rfl,r16,l16⟩,h16⟩;have hb16:=bTn hb15 h16;have QC':=hdn (QC.out.kept h16);clear QC;have QC:=QC';clear QC';have QL':=hdn (QL.out.kept h16);clear QL;have QL:=QL';clear QL';replace hx2:=hx2.below h16;replace r8:=r8.below h16;replace r10:=r10.below h16;clear h16 ko r15 y4)
  | (go_at_call 70;refine (ka _ _ _ _ _ _ _ hx2 r16).mono ?_;rintro e W17 ⟨⟨a17,c17,rfl,r17,l17,-⟩,h17⟩;have hb17:=bTn hb16 h17;have QC':=hdn (QC.out.kept h17);clear QC;have QC:=QC';clear QC';have QL':=hdn (QL.out.kept h17);clear QL;have QL:=QL';clear QL';replace r8:=r8.below h17;replace r10:=r10.below h17;have y5:=QL.out.cell 5 (v:=.slice (Y i 5).a (Y i 5).n (Y i 5).c) rfl;clear h17 ka hx2 r16)
  | (go_at_call 34;refine (kr2 _ hb17 _ _ _ r17).mono ?_;rintro e W18 ⟨⟨a18,c18,rfl,r18,-⟩,h18⟩;have hb18:=bTn hb17 h18;have QC':=hdn (QC.out.kept h18);clear QC;have QC:=QC';clear QC';have QL':=hdn (QL.out.kept h18);clear QL;have QL:=QL';clear QL';replace r8:=r8.below h18;replace r10:=r10.below h18;replace r17:=r17.below h18;have z4:=QC.out.cell 4 (v:=.int .i64 M.u) rfl;have z6:=QC.out.cell 6 (v:=.int .i64 M.t) rfl;have y6:=QL.out.cell 6 (v:=.slice (Y i 6).a (Y i 6).n (Y i 6).c) rfl;have y7:=QL.out.cell 7 (v:=.slice (Y i 7).a (Y i 7).n (Y i 7).c) rfl;have y8:=QL.out.cell 8 (v:=.slice (Y i 8).a (Y i 8).n (Y i 8).c) rfl;clear h18 kr2 y5)
  | (go_at_call 71;refine (kx _ hb18 _ _ _ r18).mono ?_;rintro e W19 ⟨⟨a19,c19,rfl,r19⟩,h19⟩;have hb19:=bTn hb18 h19;replace r8:=r8.below h19;replace r10:=r10.below h19;replace r17:=r17.below h19;clear h19 kx r18 z4 z6 y6 y7 y8 QC QL)
  | (go_at_call 70;refine (kb _ _ _ _ _ _ _ r17 r19).mono ?_;rintro e W20 ⟨⟨a20,c20,rfl,r20,l20,f20⟩,h20⟩;have hb20:=bTn hb19 h20;replace r8:=r8.below h20;replace r10:=r10.below h20;have f20h:Hid (∀ x,a20=some x→w.heap.size≤x.block):=fun x hx=>Nat.le_trans hb19.size (f20 x hx);clear h20 kb r17 r19 f20)
  | (at_builtin;refine wpList_copy rfl (.tmp 185) (.tmp 186) 34 rfl W20.heap.size 2 i0 (.int .i64 0) 8 Tryz.underlying34 hi2 hz0 hz1 hz2 rfl _ 0 [] rfl (World.ownsRow_lit _ #[] 0 (Nat.le_refl _) (by decide) rfl) .i64 a10 M.D c10 _ rfl (r10.below (bNw (Below.refl _ _) _)) (none_of r10 hD0) (by unfold maxLen;omega) (by omega) (bNw (Below.refl _ _) _).size ?_;intro v21 W21 ho21 hg21;have bn21:=bNw (Below.refl W20.heap.size W20) (.cells #[] 2);have b21:Below W20.heap.size W20 W21:=bn21.grown hg21 bn21.size (fun g h=>Nat.le_of_eq (Option.some.inj h));have r8':=r8.below b21;simp only[Nat.zero_add,List.nil_append] at ho21;clear bn21 hg21)
  | (at_builtin;refine wpList_copy rfl (.tmp 187) (.tmp 188) 34 rfl W20.heap.size 2 i0 (.int .i64 0) 8 Tryz.underlying34 hi2 hz0 hz1 hz2 rfl _ M.D _ rfl ho21 .i64 a8 M.D c8 _ rfl r8' (none_of r8' hD0) (by unfold maxLen;omega) (by omega) b21.size ?_;intro v22 W22 ho22 hg22;have b22:=below_append b21 ho21 hg22;have r20':=r20.below b22;have hb22:=bTn hb20 b22;have wk:=r10.wf_mem;have wv:=r8'.wf_mem;rw[←List.map_append] at ho22;obtain⟨b9,k9,rfl,rb⟩:=oRe (zs:=kL M p i x++vL M i x) ho22 (by rw[List.length_append,hkl,hvl]) (fun z hz=>(List.mem_append.1 hz).elim (wk z) (wv z)) (fun j hj=>map_get _ j (by have e1:=hkl;have e2:=hvl;unfold kL nrmL at e1;unfold vL nrmL at e2;rw[List.length_append,e1,e2];exact hj));clear wk wv;clear ho22 hg22 ho21 b21 b22 r8' r20))
 refine bodyPost_ret (v:=.tuple #[.slice a20 M.D c20,.slice b9 (M.D+M.D) k9]) ?_ rfl ⟨⟨a20,c20,b9,k9,rfl,r20',rb,f20h.out⟩,hb22⟩
 simp[results,Tryz.results33,go_sem]
theorem mdlayer_call (M:Md)(E L N O:SL)(Y U D:Nat→Nat→SL)(La:SL)(Ya:Nat→Nat→SL)(G:Nat→SL)(F:MdFit M)(hok:M.r≠0→∃ R,AdFit M R)(i:Nat)(hi:i<M.m.ln)(p:Int)(hp:0≤p∧p≤1000)(w:World)(hM:ModAt w E L N O Y U D M.m)(hG:M.r≠0→∀ j,j<4→IsS w (G j) (M.a.f i j))
  (pa:Option Addr) (n pc:Nat) (A:Nat→Option Addr) (C:Nat→Nat) (P:Nat→List Int) (hP:Grid w pa n A C P) (hC:∀ r,r<n→(P r).length≤C r) (hW:∀ r,r<n→(P r).length=2*M.m.ln*M.D) (hn:n≤100)
  (ax:Option Addr) (cx:Nat) (x:List Int) (hx:Reads .i64 w ax M.D x) :
  Calls Tryz.prog 33 #[.agg #[.int .i64 M.d,.int .i64 M.h,.int .i64 M.l,.int .i64 M.v,.int .i64 M.u,.int .i64 M.x,.int .i64 M.t,.int .i64 M.n,.slice E.a E.n E.c,.slice L.a L.n L.c,.slice N.a N.n N.c,.slice O.a O.n O.c],.int .i64 i,.agg #[.int .i64 M.r,.int .i64 M.s,.slice La.a La.n La.c],.agg #[.slice (G 0).a (G 0).n (G 0).c,.slice (G 1).a (G 1).n (G 1).c,.slice (G 2).a (G 2).n (G 2).c,.slice (G 3).a (G 3).n (G 3).c],.slice pa n pc,.int .i64 p,.slice ax M.D cx] w fun e w'=>(∃ a c b k,e=.returned (.tuple #[.slice a M.D c,.slice b (M.D+M.D) k])∧Reads .i64 w' a M.D (wkL M i x (oL M p P n i x))∧Reads .i64 w' b (M.D+M.D) (kL M p i x++vL M i x)∧∀ x,a=some x→w.heap.size≤x.block)∧Below w.heap.size w w':=by
 obtain⟨x0,hx0⟩:=hM.some_ (by omega)
 have:=mdlayer_walk M E L N O Y U D La Ya G x0 F hok i hi p hp w hM hx0 hG pa n pc A C P hP hC hW hn ax cx x hx
 rw[hx0,hM.len]
 exact this
def saD (i:Nat):Option Nat:=match i with|0=>some 89|1=>some 90|2=>some 91|3=>some 92|4=>some 93|5=>some 94|6=>some 95|7=>some 96|8=>some 97|9=>some 98|10=>some 99|11=>some 100|12=>some 101|13=>some 102|14=>some 103|15=>some 22|_=>none
theorem saD_inj:∀ i,i<16→∀ j,j<16→saD i=saD j→saD i≠none→i=j:=by decide
theorem saD_lt:∀ i,i<16→∀ d,saD i=some d→d<123:=by
 intro i hi d h
 have:∀ i,i<16→(saD i).all (fun d=>decide (d<123))=true:=by decide
 have:=this i hi
 rw[h] at this
 simpa using this
def saF (cb n b1 b2 d0 cq ck cv:Nat)(qa ka va:Option Addr)(hh:Int)(A1 A2:Nat→Option Addr)(C1:Nat→Nat)(K V:Nat→List Int)(O:List Int)(l:Nat→Bool)(i:Nat)(q:Value)(w:World):Prop:=match i with
 | 0=>q=.slice qa d0 cq
 | 1=>q=.slice (some ⟨b1,0,none⟩) n (n+1)
 | 2=>q=.slice ka d0 ck
 | 3=>∃ g,q=.slice (some ⟨g,0,none⟩) 1 1∧g≠b1∧g≠b2∧(l 4=false→Blk 34 w g #[.slice ka d0 ck])
 | 4=>∃ u k,q=.slice u (n+1) k∧(∀ h,(Value.slice u (n+1) k).ownBlock=some h→h≠b2)∧OwnGrid b1 w (.slice u (n+1) k) (n+1) (fun r=>if r=n then ka else A1 r) (fun r=>if r=n then ck else C1 r) K
 | 5=>q=.slice (some ⟨b2,0,none⟩) n (n+1)
 | 6=>q=.slice va d0 cv
 | 7=>∃ g,q=.slice (some ⟨g,0,none⟩) 1 1∧g≠b1∧g≠b2∧(l 8=false→Blk 34 w g #[.slice va d0 cv])
 | 8=>∃ u k,q=.slice u (n+1) k∧(∀ h,(Value.slice u (n+1) k).ownBlock=some h→h≠b1)∧OwnGrid b1 w (.slice u (n+1) k) (n+1) (fun r=>if r=n then va else A2 r) (fun r=>if r=n then cv else C1 r) V
 | 9=>q=.pointer (some ⟨cb,1,none⟩)
 | 10=>q=.int .i64 hh
 | 11=>∃ b bc,q=.tuple #[.slice b d0 bc,.int .i64 0]∧Reads .i64 w b d0 O∧d0≤bc∧∀ x,b=some x→b1≤x.block
 | 12=>∃ b bc,q=.slice b d0 bc∧Reads .i64 w b d0 O∧d0≤bc∧∀ x,b=some x→b1≤x.block
 | 13=>q=.int .i64 0
 | 14=>∃ b bc,q=.slice b d0 bc∧Reads .i64 w b d0 O∧d0≤bc∧∀ x,b=some x→b1≤x.block
 | 15=>∃ b bc,q=.slice b d0 bc∧Reads .i64 w b d0 O∧d0≤bc∧∀ x,b=some x→b1≤x.block
 | _=>True
def saS (b1 b2 n:Nat)(A1 A2:Nat→Option Addr)(C1:Nat→Nat)(K V:Nat→List Int)(w00:World)(l:Nat→Bool)(w:World):Prop:=Below b1 w00 w∧b1<w.heap.size∧b2<w.heap.size∧(l 4=false→OwnGrid b1 w (.slice (some ⟨b1,0,none⟩) n (n+1)) n A1 C1 K)∧(l 8=false→OwnGrid b1 w (.slice (some ⟨b2,0,none⟩) n (n+1)) n A2 C1 V)
theorem saF_below {cb n b1 b2 d0 cq ck cv:Nat}{qa ka va:Option Addr}{hh:Int}{A1 A2:Nat→Option Addr}{C1:Nat→Nat}{K V:Nat→List Int}{O:List Int}{l l':Nat→Bool}{i:Nat}{q:Value}{w w':World}(h:saF cb n b1 b2 d0 cq ck cv qa ka va hh A1 A2 C1 K V O l i q w)(hb:Below w.heap.size w w')(m4:l' 4=l 4)(m8:l' 8=l 8):saF cb n b1 b2 d0 cq ck cv qa ka va hh A1 A2 C1 K V O l' i q w':=by
 unfold saF at h ⊢
 split
 ·exact h
 ·exact h
 ·exact h
 ·obtain⟨g,h1,h2,h3,h4⟩:=h;exact⟨g,h1,h2,h3,fun e=>(h4 (by rw[←m4];exact e)).kept hb⟩
 ·obtain⟨u,k,h1,h2,h3⟩:=h;exact⟨u,k,h1,h2,h3.below hb⟩
 ·exact h
 ·exact h
 ·obtain⟨g,h1,h2,h3,h4⟩:=h;exact⟨g,h1,h2,h3,fun e=>(h4 (by rw[←m8];exact e)).kept hb⟩
 ·obtain⟨u,k,h1,h2,h3⟩:=h;exact⟨u,k,h1,h2,h3.below hb⟩
 ·exact h
 ·exact h
 ·obtain⟨b,bc,h1,h2,h3⟩:=h;exact⟨b,bc,h1,h2.below hb,h3⟩
 ·obtain⟨b,bc,h1,h2,h3⟩:=h;exact⟨b,bc,h1,h2.below hb,h3⟩
 ·exact h
 ·obtain⟨b,bc,h1,h2,h3⟩:=h;exact⟨b,bc,h1,h2.below hb,h3⟩
 ·obtain⟨b,bc,h1,h2,h3⟩:=h;exact⟨b,bc,h1,h2.below hb,h3⟩
 ·trivial
theorem OwnGrid.grown {B:Nat}{w w':World}{v:Value}{k h:Nat}{A:Nat→Option Addr}{C:Nat→Nat}{R:Nat→List Int}(o:OwnGrid B w v k A C R)(hg:w.grownBy w' (some h))(hv:∀ g,v.ownBlock=some g→g≠h)(hr:∀ r,r<k→0<(R r).length→∀ x,A r=some x→x.block≠h):OwnGrid B w' v k A C R:=by
 refine⟨o.own.kept hg ?_,fun r hr'=>(o.row r hr').grown hg (fun h0 x hx g hg'=>by obtain rfl:=Option.some.inj hg';exact hr r hr' h0 x hx),o.apart⟩
 cases e:v.ownBlock with
 | none=>exact .inl rfl
 | some g=>exact .inr (fun e'=>hv g e (Option.some.inj e'))
theorem Blk.grown {t:TypeId}{w w':World}{b h:Nat}{cs:Array Value}(q:Blk t w b cs)(hg:w.grownBy w' (some h))(hn:b≠h):Blk t w' b cs:=(hg.block b q.lt (fun e=>hn (Option.some.inj e))).trans q
theorem run_build31 (p:Option Addr)(n c:Nat)(w:World):(Instr.buildSlice 31 1 #[(0,.slice p n c)]).run Tryz.prog w=.ok (.slice (some ⟨w.heap.size,0,none⟩) 1 1) (w.alloc (.cells #[.slice p n c] 34)):=by go_simp
theorem one_blk {w:World}{g:Nat}{V:Value}{t:TypeId}(q:Blk t w g #[V]):∀ j u,[V][j]? = some u→w.cell? ((⟨g,0,none⟩:Addr).add j)=some u:=by
 intro j u hj
 match j,hj with
 | 0,hj=>simp at hj;subst hj;simpa [Addr.add] using q.cell 0 (v:=V) rfl
theorem app_keep {B b g n d c:Nat}{w:World}{A:Nat→Option Addr}{C:Nat→Nat}{R:Nat→List Int}{p:Option Addr}(ty:TypeId)(og:OwnGrid B w (.slice (some ⟨b,0,none⟩) n (n+1)) n A C R)(hB:B≤w.heap.size)(hn:n≤1000)(hlen:(R n).length=d)(rt:Reads .i64 w p d (R n))(hlow:∀ x,p=some x→x.block≠b)(q:Blk 34 w g #[.slice p d c]) :
  ∃ u k w',(Builtin.append_ #[31,31] ty #[.slice (some ⟨b,0,none⟩) n (n+1),.slice (some ⟨g,0,none⟩) 1 1]).run Tryz.prog w=.ok (.slice u (n+1) k) w'∧OwnGrid B w' (.slice u (n+1) k) (n+1) (fun r=>if r=n then p else A r) (fun r=>if r=n then c else C r) R∧w.grownBy w' (some b)∧Below B w w'∧(∀ h,(Value.slice u (n+1) k).ownBlock=some h→h=b∨w.heap.size≤h):=by
 obtain⟨j0,hj,hy0,hy1,hy2⟩:=info_parts info34
 obtain⟨v',w',hr,ho,hg,hs⟩:=run_append_where (P:=Tryz.prog) w B 31 ty 34 j0 (.slice none 0 0) 24 Tryz.underlying31 hj hy0 hy1 hy2 rfl _ n _ og.own ⟨g,0,none⟩ 1 (.slice p d c) (one_blk q) (sliceOne17 _ _ _) (by unfold maxLen;omega) (by omega) hB
 have oa:=og.app (p:=p) (c:=c) (V:=.slice p d c) (by rw[hlen]) (by rw[hlen];exact rt) (fun _ x hx g' hg' e=>hlow x hx (e.trans (Option.some.inj hg').symm)) ho hg hs
 obtain⟨u,k,rfl,_⟩:=oa.grid
 refine⟨u,k,w',hr,oa,hg,(Below.refl B w).grown hg hB (fun g' h'=>(og.own.lt g' h').1),fun h hh=>?_⟩
 rcases hs with e|e
 ·exact .inl (Option.some.inj ((e ▸ hh:(Value.slice (some (⟨b,0,none⟩:Addr)) n (n+1)).ownBlock=some h))).symm
 ·exact .inr (e h hh)
theorem sa_region {id:Nat}{ops:Array Oper}{Q:Exit→Act→World→Prop}{a0:Act}{w0:World}(cb n b1 b2 d0 cq ck cv:Nat)(qa ka va:Option Addr)(hh:Int)(A1 A2:Nat→Option Addr)(C1:Nat→Nat)(K V:Nat→List Int)(O:List Int)(w00:World)(hlow:lowB ops=true)(hsz:ops.size=16)
  (o0:OpIn ops 0 (some 89) (.move (.tmp 16)) none []) (o1:OpIn ops 1 (some 90) (.move (.tmp 20)) none []) (o2:OpIn ops 2 (some 91) (.move (.tmp 17)) none []) (o3:OpIn ops 3 (some 92) (.buildSlice 31 1 #[(0,.tmp 91)]) none [2]) (o4:OpIn ops 4 (some 93) (.call { callee:=.builtin .append,args:=#[.tmp 90,.tmp 92],argTypes:=#[31,31] }) none [1,3]) (o5:OpIn ops 5 (some 94) (.move (.tmp 21)) none []) (o6:OpIn ops 6 (some 95) (.move (.tmp 18)) none []) (o7:OpIn ops 7 (some 96) (.buildSlice 31 1 #[(0,.tmp 95)]) none [6]) (o8:OpIn ops 8 (some 97) (.call { callee:=.builtin .append,args:=#[.tmp 94,.tmp 96],argTypes:=#[31,31] }) none [5,7]) (o9:OpIn ops 9 (some 98) (.fieldAddr 23 (.tmp 12) 1) none []) (o10:OpIn ops 10 (some 99) (.load 3 (.tmp 98)) none [9]) (o11:OpIn ops 11 (some 100) (.call { callee:=.value (.func 62),args:=#[.tmp 89,.tmp 93,.tmp 97,.tmp 99],argTypes:=#[34,31,31,3] }) none [0,4,8,10]) (o12:OpIn ops 12 (some 101) (.extract (.tmp 100) 0) none [11]) (o13:OpIn ops 13 (some 102) (.extract (.tmp 100) 1) none [11]) (o14:OpIn ops 14 (some 103) (.call { callee:=.value (.func 48),args:=#[.tmp 101,.tmp 102],argTypes:=#[34,35] }) none [12,13]) (o15:OpIn ops 15 (some 22) (.assign (.tmp 103)) none [14])
  (u16:a0.tmps.getD 16 undef=.slice qa d0 cq) (u20:a0.tmps.getD 20 undef=.slice (some ⟨b1,0,none⟩) n (n+1)) (u17:a0.tmps.getD 17 undef=.slice ka d0 ck) (u21:a0.tmps.getD 21 undef=.slice (some ⟨b2,0,none⟩) n (n+1)) (u18:a0.tmps.getD 18 undef=.slice va d0 cv) (u12:a0.tmps.getD 12 undef=.pointer (some ⟨cb,0,none⟩))
  (e1:w00.heap.size=b1) (hb12:b1≠b2) (hn:n≤1000) (hlk:(K n).length=d0) (hlv:(V n).length=d0) (hd:0<d0) (rk:Reads .i64 w00 ka d0 (K n)) (rv:Reads .i64 w00 va d0 (V n)) (lo1:∀ r,r<n→∀ x,A1 r=some x→x.block<b1) (lo2:∀ r,r<n→∀ x,A2 r=some x→x.block<b1)
  (hty4:∀ o,ops[4]? = some o→o.type=31) (hty8:∀ o,ops[8]? = some o→o.type=31)
  (hS:saS b1 b2 n A1 A2 C1 K V w00 (fun _=>false) w0.drew)
  (x9:∀ w,(Instr.fieldAt 23 (.pointer (some ⟨cb,0,none⟩)) 1).run Tryz.prog w=.ok (.pointer (some ⟨cb,1,none⟩)) w) (x10:∀ w,Below b1 w00 w→(Instr.loadAt 3 (.pointer (some ⟨cb,1,none⟩))).run Tryz.prog w=.ok (.int .i64 hh) w)
  (x11:∀ w u1 k1 u2 k2,Below b1 w00 w→Grid w u1 (n+1) (fun r=>if r=n then ka else A1 r) (fun r=>if r=n then ck else C1 r) K→Grid w u2 (n+1) (fun r=>if r=n then va else A2 r) (fun r=>if r=n then cv else C1 r) V→Calls Tryz.prog 62 #[.slice qa d0 cq,.slice u1 (n+1) k1,.slice u2 (n+1) k2,.int .i64 hh] w fun e w'=>∃ b bc,e=.returned (.tuple #[.slice b d0 bc,.int .i64 0])∧Reads .i64 w' b d0 O∧d0≤bc∧(∀ x,b=some x→w.heap.size≤x.block)∧Below w.heap.size w w')
  (hs:123≤a0.tmps.size)
  (fin:∀ a w b bc,a.tmps.size=a0.tmps.size→a.defers=a0.defers→(∀ s,(∀ i,i<16→saD i≠some s)→a.tmps.getD s undef=a0.tmps.getD s undef)→a.tmps.getD 22 undef=.slice b d0 bc→Reads .i64 w b d0 O→d0≤bc→(∀ x,b=some x→b1≤x.block)→Below b1 w00 w→Q .normal a w):(Code.region id ops true).wp Tryz.prog Q a0 w0:=by
 have r62:∀ args w,(callFunc 62 args).run Tryz.prog w=.ok (.enter 62 args) w:=eNo Tryz.func62 (by kernel_rfl) rfl
 have r48:∀ args w,(callFunc 48 args).run Tryz.prog w=.ok (.enter 48 args) w:=eNo Tryz.func48 (by kernel_rfl) rfl
 have lok:∀ x,ka=some x→x.block<b1:=fun x hx=>by
  have:=World.block_lt_of_cell? w00 _ (rk.cell x hx 0 hd)
  rw[e1] at this
  simpa [Addr.add] using this
 have lov:∀ x,va=some x→x.block<b1:=fun x hx=>by
  have:=World.block_lt_of_cell? w00 _ (rv.cell x hx 0 hd)
  rw[e1] at this
  simpa [Addr.add] using this
 refine wRi (by kernel_rfl) hlow (Inv 16 saD a0 (fun l a w=>saS b1 b2 n A1 A2 C1 K V w00 l w) (saF cb n b1 b2 d0 cq ck cv qa ka va hh A1 A2 C1 K V O)) (Inv.start hS) ?_ ?_
 ·intro l i o a w ho hl hcl hdep hI
  have hi:i<16:=by rw[←hsz];exact (Array.getElem?_eq_some_iff.1 ho).1
  have ev:∀ (s:Nat),a.eval (.tmp s)=a.tmps.getD s undef:=fun _=>rfl
  have evf:∀ f,a.eval (.func f)=.func (.func f) #[] #[]:=fun _=>rfl
  have inj:∀ d,saD i=some d→∀ j d',j<16→saD j=some d'→j≠i→d'≠d:=fun d hd j d' hj hd' hne e=>hne (saD_inj j hj i hi (by rw[hd',hd,e]) (by rw[hd'];simp))
  have kp:∀ s,(∀ i,i<16→saD i≠some s)→a.tmps.getD s undef=a0.tmps.getD s undef:=hI.kept
  obtain⟨hw,hs1,hs2,hk4,hk8⟩:=hI.world
  have oth:∀ j,j≠i→(l j || j==i)=l j:=fun j hj=>by rw[show (j==i)=false by simp[hj],Bool.or_false]
  have sam:(l i || i==i)=true:=by simp
  have go:∀ {d:Nat}{v:Value}{w':World},saD i=some d→i≠4∧i≠8→Below w.heap.size w w'→saF cb n b1 b2 d0 cq ck cv qa ka va hh A1 A2 C1 K V O (fun j=>l j || j==i) i v w'→Inv 16 saD a0 (fun l a w=>saS b1 b2 n A1 A2 C1 K V w00 l w) (saF cb n b1 b2 d0 cq ck cv qa ka va hh A1 A2 C1 K V O) (fun j=>l j || j==i) (a.put (some d) v) w':=by
   intro d v w' hD hne hb hF
   refine hI.put hi hD (Nat.lt_of_lt_of_le (saD_lt i hi d hD) hs) (inj d hD) ⟨?_,Nat.lt_of_lt_of_le hs1 hb.size,Nat.lt_of_lt_of_le hs2 hb.size,fun e=>?_,fun e=>?_⟩ hF (fun j u _ _ _ hf=>saF_below hf hb (oth 4 (fun e=>hne.1 e.symm)) (oth 8 (fun e=>hne.2 e.symm)))
   ·exact hw.trans (hb.mono (Nat.le_of_lt hs1))
   ·exact (hk4 (by rw[←oth 4 (fun e=>hne.1 e.symm)];exact e)).below hb
   ·exact (hk8 (by rw[←oth 8 (fun e=>hne.2 e.symm)];exact e)).below hb
  rcases (show i=0∨i=1∨i=2∨i=3∨i=4∨i=5∨i=6∨i=7∨i=8∨i=9∨i=10∨i=11∨i=12∨i=13∨i=14∨i=15 by omega) with rfl|rfl|rfl|rfl|rfl|rfl|rfl|rfl|rfl|rfl|rfl|rfl|rfl|rfl|rfl|rfl
  ·obtain⟨o',e1',e2,e3,e4,e5⟩:=o0
   obtain rfl:=Option.some.inj (ho.symm.trans e1')
   have dp:=dPo e5 hdep
   have U:a.tmps.getD 16 undef=.slice qa d0 cq:=(kp 16 (by decide)).trans u16
   exact wVa (v:=.slice qa d0 cq) (w':=w) ho e4 (by simp[execOp,e3,ev,U]) (by rw[e2];exact go rfl (by decide) (Below.refl _ _) rfl)
  ·obtain⟨o',e1',e2,e3,e4,e5⟩:=o1
   obtain rfl:=Option.some.inj (ho.symm.trans e1')
   have dp:=dPo e5 hdep
   have U:a.tmps.getD 20 undef=.slice (some ⟨b1,0,none⟩) n (n+1):=(kp 20 (by decide)).trans u20
   exact wVa (v:=.slice (some ⟨b1,0,none⟩) n (n+1)) (w':=w) ho e4 (by simp[execOp,e3,ev,U]) (by rw[e2];exact go rfl (by decide) (Below.refl _ _) rfl)
  ·obtain⟨o',e1',e2,e3,e4,e5⟩:=o2
   obtain rfl:=Option.some.inj (ho.symm.trans e1')
   have dp:=dPo e5 hdep
   have U:a.tmps.getD 17 undef=.slice ka d0 ck:=(kp 17 (by decide)).trans u17
   exact wVa (v:=.slice ka d0 ck) (w':=w) ho e4 (by simp[execOp,e3,ev,U]) (by rw[e2];exact go rfl (by decide) (Below.refl _ _) rfl)
  ·obtain⟨o',e1',e2,e3,e4,e5⟩:=o3
   obtain rfl:=Option.some.inj (ho.symm.trans e1')
   have dp:=dPo e5 hdep
   have V2:a.tmps.getD 91 undef=.slice ka d0 ck:=hI.val 2 91 (by decide) rfl (dp 2 (by decide))
   have n4:l 4=false:=by
    cases e:l 4 with
    | false=>rfl
    | true =>
     exfalso
     have y0:=hcl.dep' o4 e 3 (by decide)
     rw[hl] at y0
     cases y0
   refine wVa (v:=.slice (some ⟨w.heap.size,0,none⟩) 1 1) (w':=w.alloc (.cells #[.slice ka d0 ck] 34)) ho e4 (by simp[execOp,e3,ev,V2,run_build31]) ?_
   rw[e2]
   exact go rfl (by decide) (bNw (Below.refl _ _) _) ⟨w.heap.size,rfl,by omega,by omega,fun _=>Blk.new 34 w _⟩
  ·obtain⟨o',e1',e2,e3,e4,e5⟩:=o4
   obtain rfl:=Option.some.inj (ho.symm.trans e1')
   have dp:=dPo e5 hdep
   have V1:a.tmps.getD 90 undef=.slice (some ⟨b1,0,none⟩) n (n+1):=hI.val 1 90 (by decide) rfl (dp 1 (by decide))
   obtain⟨g,V3,g1,g2,gq⟩:∃ g,a.tmps.getD 92 undef=.slice (some ⟨g,0,none⟩) 1 1∧g≠b1∧g≠b2∧(l 4=false→Blk 34 w g #[.slice ka d0 ck]):=hI.val 3 92 (by decide) rfl (dp 3 (by decide))
   obtain⟨u,k,w',hap,oa,hg,hbb,hst⟩:=app_keep 31 (hk4 hl) (Nat.le_of_lt hs1) hn hlk (rk.below (e1 ▸ hw)) (fun x hx=>Nat.ne_of_lt (lok x hx)) (gq hl)
   refine wVa (v:=.slice u (n+1) k) (w':=w') ho e4 (by simp only[execOp,e3,resolve,invoke,builtin,Sem.run_bind,Sem.run_pure,Result.andThen_ok,List.map_toArray,List.map_cons,List.map_nil,ev,V1,V3,hty4 _ ho,hap]) ?_
   rw[e2]
   have n11:l 11=false:=by
    cases e:l 11 with
    | false=>rfl
    | true =>
     exfalso
     have y0:=hcl.dep' o11 e 4 (by decide)
     rw[hl] at y0
     cases y0
   have n12:l 12=false:=by
    cases e:l 12 with
    | false=>rfl
    | true =>
     exfalso
     have y0:=hcl.dep' o12 e 11 (by decide)
     have y1:=hcl.dep' o11 y0 4 (by decide)
     rw[hl] at y1
     cases y1
   have n13:l 13=false:=by
    cases e:l 13 with
    | false=>rfl
    | true =>
     exfalso
     have y0:=hcl.dep' o13 e 11 (by decide)
     have y1:=hcl.dep' o11 y0 4 (by decide)
     rw[hl] at y1
     cases y1
   have n14:l 14=false:=by
    cases e:l 14 with
    | false=>rfl
    | true =>
     exfalso
     have y0:=hcl.dep' o14 e 12 (by decide)
     have y1:=hcl.dep' o12 y0 11 (by decide)
     have y2:=hcl.dep' o11 y1 4 (by decide)
     rw[hl] at y2
     cases y2
   have n15:l 15=false:=by
    cases e:l 15 with
    | false=>rfl
    | true =>
     exfalso
     have y0:=hcl.dep' o15 e 14 (by decide)
     have y1:=hcl.dep' o14 y0 12 (by decide)
     have y2:=hcl.dep' o12 y1 11 (by decide)
     have y3:=hcl.dep' o11 y2 4 (by decide)
     rw[hl] at y3
     cases y3
   have szl:=hg.size
   refine hI.put hi rfl (Nat.lt_of_lt_of_le (by decide) hs) (inj 93 rfl) ⟨hw.trans hbb,Nat.lt_of_lt_of_le hs1 szl,Nat.lt_of_lt_of_le hs2 szl,?_,?_⟩ ?_ (fun j uu hj hjl hne hf=>?_)
   ·intro e
    rw[show ((fun j=>l j || j==4) 4)=(l 4 || 4==4) from rfl,sam] at e
    cases e
   ·intro e
    rw[show ((fun j=>l j || j==4) 8)=(l 8 || 8==4) from rfl,oth 8 (by decide)] at e
    exact (hk8 e).grown hg (fun g hg'=>by obtain rfl:=Option.some.inj hg';exact fun e=>hb12 e.symm) (fun r hr h0 x hx=>by have:=lo2 r hr x hx;omega)
   ·exact⟨u,k,rfl,fun h hh=>by rcases hst h hh with e|e<;>omega,oa⟩
   ·rcases (show j=0∨j=1∨j=2∨j=3∨j=4∨j=5∨j=6∨j=7∨j=8∨j=9∨j=10∨j=11∨j=12∨j=13∨j=14∨j=15 by omega) with rfl|rfl|rfl|rfl|rfl|rfl|rfl|rfl|rfl|rfl|rfl|rfl|rfl|rfl|rfl|rfl
    ·exact hf
    ·exact hf
    ·exact hf
    ·obtain⟨g',h1,h2,h3,h4⟩:=hf
     refine⟨g',h1,h2,h3,fun e=>?_⟩
     rw[show ((fun j=>l j || j==4) 4)=(l 4 || 4==4) from rfl,sam] at e
     cases e
    ·exact absurd rfl hne
    ·exact hf
    ·exact hf
    ·obtain⟨g',h1,h2,h3,h4⟩:=hf
     refine⟨g',h1,h2,h3,fun e=>?_⟩
     rw[show ((fun j=>l j || j==4) 8)=(l 8 || 8==4) from rfl,oth 8 (by decide)] at e
     exact (h4 e).grown hg h2
    ·obtain⟨u',k',h1,h2,h3⟩:=hf
     refine⟨u',k',h1,h2,h3.grown hg h2 (fun r hr h0 x hx=>?_)⟩
     by_cases er:r=n
     ·simp only[er,if_true] at hx
      have:=lov x hx
      omega
     ·simp only[if_neg er] at hx
      have:=lo2 r (by omega) x hx
      omega
    ·exact hf
    ·exact hf
    ·rw[n11] at hjl
     cases hjl
    ·rw[n12] at hjl
     cases hjl
    ·rw[n13] at hjl
     cases hjl
    ·rw[n14] at hjl
     cases hjl
    ·rw[n15] at hjl
     cases hjl
  ·obtain⟨o',e1',e2,e3,e4,e5⟩:=o5
   obtain rfl:=Option.some.inj (ho.symm.trans e1')
   have dp:=dPo e5 hdep
   have U:a.tmps.getD 21 undef=.slice (some ⟨b2,0,none⟩) n (n+1):=(kp 21 (by decide)).trans u21
   exact wVa (v:=.slice (some ⟨b2,0,none⟩) n (n+1)) (w':=w) ho e4 (by simp[execOp,e3,ev,U]) (by rw[e2];exact go rfl (by decide) (Below.refl _ _) rfl)
  ·obtain⟨o',e1',e2,e3,e4,e5⟩:=o6
   obtain rfl:=Option.some.inj (ho.symm.trans e1')
   have dp:=dPo e5 hdep
   have U:a.tmps.getD 18 undef=.slice va d0 cv:=(kp 18 (by decide)).trans u18
   exact wVa (v:=.slice va d0 cv) (w':=w) ho e4 (by simp[execOp,e3,ev,U]) (by rw[e2];exact go rfl (by decide) (Below.refl _ _) rfl)
  ·obtain⟨o',e1',e2,e3,e4,e5⟩:=o7
   obtain rfl:=Option.some.inj (ho.symm.trans e1')
   have dp:=dPo e5 hdep
   have V6:a.tmps.getD 95 undef=.slice va d0 cv:=hI.val 6 95 (by decide) rfl (dp 6 (by decide))
   have n8:l 8=false:=by
    cases e:l 8 with
    | false=>rfl
    | true =>
     exfalso
     have y0:=hcl.dep' o8 e 7 (by decide)
     rw[hl] at y0
     cases y0
   refine wVa (v:=.slice (some ⟨w.heap.size,0,none⟩) 1 1) (w':=w.alloc (.cells #[.slice va d0 cv] 34)) ho e4 (by simp[execOp,e3,ev,V6,run_build31]) ?_
   rw[e2]
   exact go rfl (by decide) (bNw (Below.refl _ _) _) ⟨w.heap.size,rfl,by omega,by omega,fun _=>Blk.new 34 w _⟩
  ·obtain⟨o',e1',e2,e3,e4,e5⟩:=o8
   obtain rfl:=Option.some.inj (ho.symm.trans e1')
   have dp:=dPo e5 hdep
   have V5:a.tmps.getD 94 undef=.slice (some ⟨b2,0,none⟩) n (n+1):=hI.val 5 94 (by decide) rfl (dp 5 (by decide))
   obtain⟨g,V7,g1,g2,gq⟩:∃ g,a.tmps.getD 96 undef=.slice (some ⟨g,0,none⟩) 1 1∧g≠b1∧g≠b2∧(l 8=false→Blk 34 w g #[.slice va d0 cv]):=hI.val 7 96 (by decide) rfl (dp 7 (by decide))
   obtain⟨u,k,w',hap,oa,hg,hbb,hst⟩:=app_keep 31 (hk8 hl) (Nat.le_of_lt hs1) hn hlv (rv.below (e1 ▸ hw)) (fun x hx e=>by have:=lov x hx;have:=(hk8 hl).own.lt b2 rfl;omega) (gq hl)
   refine wVa (v:=.slice u (n+1) k) (w':=w') ho e4 (by simp only[execOp,e3,resolve,invoke,builtin,Sem.run_bind,Sem.run_pure,Result.andThen_ok,List.map_toArray,List.map_cons,List.map_nil,ev,V5,V7,hty8 _ ho,hap]) ?_
   rw[e2]
   have n11:l 11=false:=by
    cases e:l 11 with
    | false=>rfl
    | true =>
     exfalso
     have y0:=hcl.dep' o11 e 8 (by decide)
     rw[hl] at y0
     cases y0
   have n12:l 12=false:=by
    cases e:l 12 with
    | false=>rfl
    | true =>
     exfalso
     have y0:=hcl.dep' o12 e 11 (by decide)
     have y1:=hcl.dep' o11 y0 8 (by decide)
     rw[hl] at y1
     cases y1
   have n13:l 13=false:=by
    cases e:l 13 with
    | false=>rfl
    | true =>
     exfalso
     have y0:=hcl.dep' o13 e 11 (by decide)
     have y1:=hcl.dep' o11 y0 8 (by decide)
     rw[hl] at y1
     cases y1
   have n14:l 14=false:=by
    cases e:l 14 with
    | false=>rfl
    | true =>
     exfalso
     have y0:=hcl.dep' o14 e 12 (by decide)
     have y1:=hcl.dep' o12 y0 11 (by decide)
     have y2:=hcl.dep' o11 y1 8 (by decide)
     rw[hl] at y2
     cases y2
   have n15:l 15=false:=by
    cases e:l 15 with
    | false=>rfl
    | true =>
     exfalso
     have y0:=hcl.dep' o15 e 14 (by decide)
     have y1:=hcl.dep' o14 y0 12 (by decide)
     have y2:=hcl.dep' o12 y1 11 (by decide)
     have y3:=hcl.dep' o11 y2 8 (by decide)
     rw[hl] at y3
     cases y3
   have szl:=hg.size
   refine hI.put hi rfl (Nat.lt_of_lt_of_le (by decide) hs) (inj 97 rfl) ⟨hw.trans hbb,Nat.lt_of_lt_of_le hs1 szl,Nat.lt_of_lt_of_le hs2 szl,?_,?_⟩ ?_ (fun j uu hj hjl hne hf=>?_)
   ·intro e
    rw[show ((fun j=>l j || j==8) 4)=(l 4 || 4==8) from rfl,oth 4 (by decide)] at e
    exact (hk4 e).grown hg (fun g hg'=>by obtain rfl:=Option.some.inj hg';exact hb12) (fun r hr h0 x hx=>by have:=lo1 r hr x hx;have:=(hk8 hl).own.lt b2 rfl;omega)
   ·intro e
    rw[show ((fun j=>l j || j==8) 8)=(l 8 || 8==8) from rfl,sam] at e
    cases e
   ·exact⟨u,k,rfl,fun h hh=>by rcases hst h hh with e|e<;>omega,oa⟩
   ·rcases (show j=0∨j=1∨j=2∨j=3∨j=4∨j=5∨j=6∨j=7∨j=8∨j=9∨j=10∨j=11∨j=12∨j=13∨j=14∨j=15 by omega) with rfl|rfl|rfl|rfl|rfl|rfl|rfl|rfl|rfl|rfl|rfl|rfl|rfl|rfl|rfl|rfl
    ·exact hf
    ·exact hf
    ·exact hf
    ·obtain⟨g',h1,h2,h3,h4⟩:=hf
     refine⟨g',h1,h2,h3,fun e=>?_⟩
     rw[show ((fun j=>l j || j==8) 4)=(l 4 || 4==8) from rfl,oth 4 (by decide)] at e
     exact (h4 e).grown hg h3
    ·obtain⟨u',k',h1,h2,h3⟩:=hf
     refine⟨u',k',h1,h2,h3.grown hg h2 (fun r hr h0 x hx=>?_)⟩
     by_cases er:r=n
     ·simp only[er,if_true] at hx
      have:=lok x hx
      have:=(hk8 hl).own.lt b2 rfl;omega
     ·simp only[if_neg er] at hx
      have:=lo1 r (by omega) x hx
      have:=(hk8 hl).own.lt b2 rfl;omega
    ·exact hf
    ·exact hf
    ·obtain⟨g',h1,h2,h3,h4⟩:=hf
     refine⟨g',h1,h2,h3,fun e=>?_⟩
     rw[show ((fun j=>l j || j==8) 8)=(l 8 || 8==8) from rfl,sam] at e
     cases e
    ·exact absurd rfl hne
    ·exact hf
    ·exact hf
    ·rw[n11] at hjl
     cases hjl
    ·rw[n12] at hjl
     cases hjl
    ·rw[n13] at hjl
     cases hjl
    ·rw[n14] at hjl
     cases hjl
    ·rw[n15] at hjl
     cases hjl
  ·obtain⟨o',e1',e2,e3,e4,e5⟩:=o9
   obtain rfl:=Option.some.inj (ho.symm.trans e1')
   have dp:=dPo e5 hdep
   have U:a.tmps.getD 12 undef=.pointer (some ⟨cb,0,none⟩):=(kp 12 (by decide)).trans u12
   exact wVa (v:=.pointer (some ⟨cb,1,none⟩)) (w':=w) ho e4 (by simp[execOp,e3,ev,U,x9 w]) (by rw[e2];exact go rfl (by decide) (Below.refl _ _) rfl)
  ·obtain⟨o',e1',e2,e3,e4,e5⟩:=o10
   obtain rfl:=Option.some.inj (ho.symm.trans e1')
   have dp:=dPo e5 hdep
   have V9:a.tmps.getD 98 undef=.pointer (some ⟨cb,1,none⟩):=hI.val 9 98 (by decide) rfl (dp 9 (by decide))
   exact wVa (v:=.int .i64 hh) (w':=w) ho e4 (by simp[execOp,e3,ev,V9,x10 w hw]) (by rw[e2];exact go rfl (by decide) (Below.refl _ _) rfl)
  ·obtain⟨o',e1',e2,e3,e4,e5⟩:=o11
   obtain rfl:=Option.some.inj (ho.symm.trans e1')
   have dp:=dPo e5 hdep
   have V0:a.tmps.getD 89 undef=.slice qa d0 cq:=hI.val 0 89 (by decide) rfl (dp 0 (by decide))
   have V10:a.tmps.getD 99 undef=.int .i64 hh:=hI.val 10 99 (by decide) rfl (dp 10 (by decide))
   obtain⟨v4,k4,V4,-,og4⟩:∃ u k,a.tmps.getD 93 undef=.slice u (n+1) k∧(∀ h,(Value.slice u (n+1) k).ownBlock=some h→h≠b2)∧OwnGrid b1 w (.slice u (n+1) k) (n+1) (fun r=>if r=n then ka else A1 r) (fun r=>if r=n then ck else C1 r) K:=hI.val 4 93 (by decide) rfl (dp 4 (by decide))
   obtain⟨v8,k8,V8,-,og8⟩:∃ u k,a.tmps.getD 97 undef=.slice u (n+1) k∧(∀ h,(Value.slice u (n+1) k).ownBlock=some h→h≠b1)∧OwnGrid b1 w (.slice u (n+1) k) (n+1) (fun r=>if r=n then va else A2 r) (fun r=>if r=n then cv else C1 r) V:=hI.val 8 97 (by decide) rfl (dp 8 (by decide))
   obtain⟨a4,c4,ev4,G4⟩:=og4.grid
   simp only[Value.slice.injEq] at ev4
   obtain⟨rfl,-,rfl⟩:=ev4
   obtain⟨a8,c8,ev8,G8⟩:=og8.grid
   simp only[Value.slice.injEq] at ev8
   obtain⟨rfl,-,rfl⟩:=ev8
   refine wCa (f:=62) (args:=#[.slice qa d0 cq,.slice v4 (n+1) k4,.slice v8 (n+1) k8,.int .i64 hh]) ho e4 (by simp[execOp,e3,resolve,invoke,Deferred.ofValue,r62,ev,evf,V0,V4,V8,V10]) ((x11 w _ _ _ _ hw G4 G8).mono ?_)
   rintro e W' ⟨b,bc,rfl,hr,hz,hfr,hb⟩
   refine⟨_,rfl,?_⟩
   rw[e2]
   exact go rfl (by decide) hb ⟨b,bc,rfl,hr,hz,fun x hx=>Nat.le_trans (Nat.le_of_lt hs1) (hfr x hx)⟩
  ·obtain⟨o',e1',e2,e3,e4,e5⟩:=o12
   obtain rfl:=Option.some.inj (ho.symm.trans e1')
   have dp:=dPo e5 hdep
   obtain⟨b,bc,V11,f11,z11⟩:∃ b bc,a.tmps.getD 100 undef=.tuple #[.slice b d0 bc,.int .i64 0]∧Reads .i64 w b d0 O∧d0≤bc∧(∀ x,b=some x→b1≤x.block):=hI.val 11 100 (by decide) rfl (dp 11 (by decide))
   exact wVa (v:=.slice b d0 bc) (w':=w) ho e4 (by simp[execOp,e3,ev,V11,Instr.extract]) (by rw[e2];exact go rfl (by decide) (Below.refl _ _) ⟨b,bc,rfl,f11,z11⟩)
  ·obtain⟨o',e1',e2,e3,e4,e5⟩:=o13
   obtain rfl:=Option.some.inj (ho.symm.trans e1')
   have dp:=dPo e5 hdep
   obtain⟨b,bc,V11,f11,z11⟩:∃ b bc,a.tmps.getD 100 undef=.tuple #[.slice b d0 bc,.int .i64 0]∧Reads .i64 w b d0 O∧d0≤bc∧(∀ x,b=some x→b1≤x.block):=hI.val 11 100 (by decide) rfl (dp 11 (by decide))
   exact wVa (v:=.int .i64 0) (w':=w) ho e4 (by simp[execOp,e3,ev,V11,Instr.extract]) (by rw[e2];exact go rfl (by decide) (Below.refl _ _) rfl)
  ·obtain⟨o',e1',e2,e3,e4,e5⟩:=o14
   obtain rfl:=Option.some.inj (ho.symm.trans e1')
   have dp:=dPo e5 hdep
   obtain⟨b,bc,V12,f12,z12⟩:∃ b bc,a.tmps.getD 101 undef=.slice b d0 bc∧Reads .i64 w b d0 O∧d0≤bc∧(∀ x,b=some x→b1≤x.block):=hI.val 12 101 (by decide) rfl (dp 12 (by decide))
   have V13:a.tmps.getD 102 undef=.int .i64 0:=hI.val 13 102 (by decide) rfl (dp 13 (by decide))
   refine wCa (f:=48) (args:=#[.slice b d0 bc,.int .i64 0]) ho e4 (by simp[execOp,e3,resolve,invoke,Deferred.ofValue,r48,ev,evf,V12,V13]) ((mdmust_yes _ _ _ w).mono ?_)
   rintro e W' ⟨rfl,hq⟩
   refine⟨_,rfl,?_⟩
   rw[e2]
   exact go rfl (by decide) (by rw[hq];exact Below.refl _ _) ⟨b,bc,rfl,by rw[hq];exact f12,z12⟩
  ·obtain⟨o',e1',e2,e3,e4,e5⟩:=o15
   obtain rfl:=Option.some.inj (ho.symm.trans e1')
   have dp:=dPo e5 hdep
   obtain⟨b,bc,V14,f14,z14⟩:∃ b bc,a.tmps.getD 103 undef=.slice b d0 bc∧Reads .i64 w b d0 O∧d0≤bc∧(∀ x,b=some x→b1≤x.block):=hI.val 14 103 (by decide) rfl (dp 14 (by decide))
   exact wVa (v:=.slice b d0 bc) (w':=w) ho e4 (by simp[execOp,e3,ev,V14]) (by rw[e2];exact go rfl (by decide) (Below.refl _ _) ⟨b,bc,rfl,f14,z14⟩)
 ·intro l a w hall hI
  have all:∀ j,j<16→l j=true:=fun j hj=>hall j (by rw[hsz];exact hj)
  obtain⟨b,bc,v15,f15,z15⟩:∃ b bc,a.tmps.getD 22 undef=.slice b d0 bc∧Reads .i64 w b d0 O∧d0≤bc∧(∀ x,b=some x→b1≤x.block):=hI.val 15 22 (by decide) rfl (all 15 (by decide))
  exact fin a w b bc hI.size hI.defers hI.kept v15 f15 z15.1 z15.2 hI.world.1
theorem worked_walk (M:Md)(E L N O:SL)(Y U D:Nat→Nat→SL)(x0:Addr)(F:MdFit M)(i:Nat)(hi:i<M.m.ln)(w:World)(hM:ModAt w E L N O Y U D M.m)(hx0:L.a=some x0)(ax:Option Addr)(cx:Nat)(x:List Int)(ao:Option Addr)(co:Nat)(o:List Int)(hx:Reads .i64 w ax M.D x)(ho:Reads .i64 w ao M.D o) :
  Calls Tryz.prog 63 #[.agg #[.int .i64 M.d,.int .i64 M.h,.int .i64 M.l,.int .i64 M.v,.int .i64 M.u,.int .i64 M.x,.int .i64 M.t,.int .i64 M.n,.slice E.a E.n E.c,.slice (some x0) M.m.ln L.c,.slice N.a N.n N.c,.slice O.a O.n O.c],.int .i64 i,.slice ax M.D cx,.slice ao M.D co] w fun e w'=>(∃ a c,e=.returned (.slice a M.D c)∧Reads .i64 w' a M.D (wkL M i x o)∧∀ x,a=some x→w.heap.size≤x.block)∧Below w.heap.size w w':=by
 have hb1:=bNw (Below.refl w.heap.size w) (.cells #[.int .i64 M.d,.int .i64 M.h,.int .i64 M.l,.int .i64 M.v,.int .i64 M.u,.int .i64 M.x,.int .i64 M.t,.int .i64 M.n,.slice E.a E.n E.c,.slice (some x0) M.m.ln L.c,.slice N.a N.n N.c,.slice O.a O.n O.c] 27)
 have q1:=Blk.new 27 w #[.int .i64 M.d,.int .i64 M.h,.int .i64 M.l,.int .i64 M.v,.int .i64 M.u,.int .i64 M.x,.int .i64 M.t,.int .i64 M.n,.slice E.a E.n E.c,.slice (some x0) M.m.ln L.c,.slice N.a N.n N.c,.slice O.a O.n O.c]
 have km:=fun (W:World) (hb:Below w.heap.size w W) a c xs=>md_mat F hi 4 (by omega) (by omega) (Y i 4) W (((hM.lay i hi).f 4 (by omega)).below hb) a c xs
 have kr:=fun (W:World) (hb:Below w.heap.size w W) a c xs=>md_rms F (Y i 5) _ (F.f5 i hi) W (((hM.lay i hi).f 5 (by omega)).below hb) a c xs
 have kx:=fun (W:World) (hb:Below w.heap.size w W) a c xs=>md_mix F hi (Y i 6) (Y i 7) (Y i 8) (U i) (D i) W (((hM.lay i hi).f 6 (by omega)).below hb) ((hM.lay i hi).u.below hb) ((hM.lay i hi).d.below hb) a c xs
 have ka:=fun (W:World) a0 c0 xs a1 c1 ys=>md_add F W a0 c0 xs a1 c1 ys
 have kb:=ka
 unfold wkL w1L
 go_enter Tryz.func63,Tryz.ntmps63
 go_wp2
 refine wk_region M E L N O Y w.heap.size i x0 U D (hM.below hb1) hx0 hi q1 (by kernel_rfl) rfl ⟨_,rfl,rfl,rfl,rfl,by kernel_rfl⟩ ⟨_,rfl,rfl,rfl,rfl,by kernel_rfl⟩ ⟨_,rfl,rfl,rfl,rfl,by kernel_rfl⟩ ⟨_,rfl,rfl,rfl,rfl,by kernel_rfl⟩ ⟨_,rfl,rfl,rfl,rfl,by kernel_rfl⟩ ⟨_,rfl,rfl,rfl,rfl,by kernel_rfl⟩ ⟨_,rfl,rfl,rfl,rfl,by kernel_rfl⟩ ⟨_,rfl,rfl,rfl,rfl,by kernel_rfl⟩ ⟨_,rfl,rfl,rfl,rfl,by kernel_rfl⟩ ⟨_,rfl,rfl,rfl,rfl,by kernel_rfl⟩ ⟨_,rfl,rfl,rfl,rfl,by kernel_rfl⟩ rfl rfl (Nat.le_of_ble_eq_true rfl) ?_
 intro a W2 cb lb hs hd hkp e9 e10 hb2 qc ql
 have ep:=fPu [12,13,14,15,16,17,18,9,10] hs hd (fun s h=>hkp s (fun j hj e=>h (by
  rcases (show j=0∨j=1∨j=2∨j=3∨j=4∨j=5∨j=6∨j=7∨j=8∨j=9∨j=10 by omega) with rfl|rfl|rfl|rfl|rfl|rfl|rfl|rfl|rfl|rfl|rfl<;>first|(simp only[wkD,Option.some.injEq] at e;subst e;simp;done)|(simp[wkD] at e))))
 simp only[List.foldl] at ep
 rw[e9,e10] at ep
 clear hs hd hkp e9 e10
 generalize a.tmps.getD 12 undef=g12,a.tmps.getD 13 undef=g13,a.tmps.getD 14 undef=g14,a.tmps.getD 15 undef=g15,a.tmps.getD 16 undef=g16,a.tmps.getD 17 undef=g17,a.tmps.getD 18 undef=g18 at ep
 simp only[Act.put,List.setIfInBounds_toArray,List.set_cons_succ,List.set_cons_zero] at ep
 subst ep
 have hb:=bTn hb1 hb2
 have hx2:=hx.below hb
 have ho2:=ho.below hb
 have QC:=hdn qc
 have QL:=hdn ql
 have z0:=qc.cell 0 (v:=.int .i64 M.d) rfl
 have y4:=ql.cell 4 (v:=.slice (Y i 4).a (Y i 4).n (Y i 4).c) rfl
 clear qc ql hb1 hb2 q1 hx ho hM
 go_wp2_with (first
  | (go_at_call 49;refine (km _ hb _ _ _ ho2).mono ?_;rintro e W3 ⟨⟨a3,c3,rfl,r3,l3,-⟩,h3⟩;clear km;have hb3:=bTn hb h3;have x3:=hx2.below h3;have QC3:=hdn (QC.out.kept h3);have QL3:=hdn (QL.out.kept h3);clear h3 hx2 QC QL)
  | (go_at_call 48;refine (mdmust_yes _ _ _ _).mono ?_;rintro e w' ⟨rfl,hq⟩;obtain rfl:=hq.symm;clear hq)
  | (go_at_call 93;refine (ka _ _ _ _ _ _ _ x3 r3).mono ?_;rintro e W4 ⟨⟨a4,c4,rfl,r4,l4,-⟩,h4⟩;clear ka;have hb4:=bTn hb3 h4;have QC4:=hdn (QC3.out.kept h4);have QL4:=hdn (QL3.out.kept h4);have y5:=QL4.out.cell 5 (v:=.slice (Y i 5).a (Y i 5).n (Y i 5).c) rfl;clear h4 x3 r3 QC3 QL3)
  | (go_at_call 64;refine (kr _ hb4 _ _ _ r4).mono ?_;rintro e W5 ⟨⟨a5,c5,rfl,r5,-⟩,h5⟩;clear kr;have hb5:=bTn hb4 h5;have r4':=r4.below h5;have z4:=(QC4.out.kept h5).cell 4 (v:=.int .i64 M.u) rfl;have z6:=(QC4.out.kept h5).cell 6 (v:=.int .i64 M.t) rfl;have y6:=(QL4.out.kept h5).cell 6 (v:=.slice (Y i 6).a (Y i 6).n (Y i 6).c) rfl;have y7:=(QL4.out.kept h5).cell 7 (v:=.slice (Y i 7).a (Y i 7).n (Y i 7).c) rfl;have y8:=(QL4.out.kept h5).cell 8 (v:=.slice (Y i 8).a (Y i 8).n (Y i 8).c) rfl;clear h5 r4 QC4 QL4)
  | (go_at_call 100;refine (kx _ hb5 _ _ _ r5).mono ?_;rintro e W6 ⟨⟨a6,c6,rfl,r6⟩,h6⟩;clear kx;have hb6:=bTn hb5 h6;have r4'':=r4'.below h6;clear h6 r4' r5)
  | (go_at_call 93;refine (kb _ _ _ _ _ _ _ r4'' r6).mono ?_;rintro e W7 ⟨⟨a7,c7,rfl,r7,l7,f7⟩,h7⟩;clear kb;have F7:Hid (∀ x,a7=some x→w.heap.size≤x.block):=fun x hx=>Nat.le_trans hb6.size (f7 x hx);clear f7;have hb7:=bTn hb6 h7;clear h7 r4'' r6))
 go_ret
 exact⟨⟨_,_,rfl,r7,F7.out⟩,hb7⟩
end Go.Proofs.YthliomlmhfjhnaaGreat

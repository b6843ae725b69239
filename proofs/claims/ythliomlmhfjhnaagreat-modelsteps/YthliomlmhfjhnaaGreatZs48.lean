/- Texts put together. -/
import Derived.Test.YthliomlmhfjhnaaGreatZs46
import Derived.Test.YthliomlmhfjhnaaGreatZs47
namespace Go.Proofs.YthliomlmhfjhnaaGreat
set_option maxRecDepth 20000
set_option maxHeartbeats 16000000
open Go.ChangeShapes Go.WideShapes Go.ChangeAt Go.RowKit
set_option linter.unusedVariables false
set_option linter.unusedSimpArgs false
theorem rL7 {w:World}{b:Nat}{d h l v u x t n:Int}{a0 a1 a2 a3:Option Addr}{n0 n1 n2 n3 c0 c1 c2 c3:Nat}(q:Blk 27 w b #[.int .i64 d,.int .i64 h,.int .i64 l,.int .i64 v,.int .i64 u,.int .i64 x,.int .i64 t,.int .i64 n,.slice a0 n0 c0,.slice a1 n1 c1,.slice a2 n2 c2,.slice a3 n3 c3]):(Instr.loadAt 27 (.pointer (some ⟨b,0,none⟩))).run Tryz.prog w=.ok (.agg #[.int .i64 d,.int .i64 h,.int .i64 l,.int .i64 v,.int .i64 u,.int .i64 x,.int .i64 t,.int .i64 n,.slice a0 n0 c0,.slice a1 n1 c1,.slice a2 n2 c2,.slice a3 n3 c3]) w :=
 run_load27 (E:=⟨a0,n0,c0⟩) (L:=⟨a1,n1,c1⟩) (N:=⟨a2,n2,c2⟩) (O:=⟨a3,n3,c3⟩) q
theorem rdstep_walk (M:Md)(E L N O:SL)(Y U D:Nat→Nat→SL)(La:SL)(Ya:Nat→Nat→SL)(x0:Addr)(F:MdFit M)(hE:badE M=0)(ok:okB M.d M.h M.l M.v M.u M.x M.t M.n=true)(hok:M.r≠0→∃ R,AdFit M R)(p:Int)(hp:0≤p∧p<24)(tok:Nat)(ht:(tok:Int)<M.v)(w:World)(hM:ModAt w E L N O Y U D M.m)(hA:AdAt w La Ya M.a)(hml:M.m.ln≤9223372036854775807)(hal:M.a.ln≤9223372036854775807)(hx0:L.a=some x0)
  (pa:Option Addr) (n pc:Nat) (A:Nat→Option Addr) (C:Nat→Nat) (P:Nat→List Int) (hP:Grid w pa n A C P) (hC:∀ r,r<n→(P r).length≤C r) (hcn:(n:Int)=p-seeZ p M.n) (hW:∀ r,r<n→(P r).length=2*M.m.ln*M.D) :
  Calls Tryz.prog 13 #[.agg #[.int .i64 M.d,.int .i64 M.h,.int .i64 M.l,.int .i64 M.v,.int .i64 M.u,.int .i64 M.x,.int .i64 M.t,.int .i64 M.n,.slice E.a E.n E.c,.slice (some x0) M.m.ln L.c,.slice N.a N.n N.c,.slice O.a O.n O.c],.agg #[.int .i64 M.r,.int .i64 M.s,.slice La.a La.n La.c],.slice pa n pc,.int .i64 p,.int .i64 tok] w fun e w'=>(∃ a c b k,e=.returned (.tuple #[.slice a (2*M.m.ln*M.D) c,.slice b M.D k,.int .i64 0])∧Reads .i64 w' a (2*M.m.ln*M.D) (rowL M p P n tok)∧2*M.m.ln*M.D≤c∧Reads .i64 w' b M.D (outL M p P n tok)∧(∀ x,a=some x→w.heap.size≤x.block)∧∀ x,b=some x→w.heap.size≤x.block)∧Below w.heap.size w w':=by
 obtain⟨i0,hi2,hz0,hz1,hz2⟩:=info_parts info2
 have d0:=F.d0
 have d1:=F.d1
 have l0:=F.l0
 have l1:=F.l1
 have hD0:0<M.D:=by omega
 have wdb:=wd_bound F
 have ewd:=wOf F ok
 have sb:=see_bounds hp ⟨F.n0,F.n1⟩
 have wp:(Lit.int .i64 p).wf=true:=wf_small (by omega) (by omega)
 have wn:(Lit.int .i64 M.n).wf=true:=wf_small (by have:=F.n0;omega) (by have:=F.n1;omega)
 have d1':decide (p<0)=false:=decide_eq_false (by omega)
 have d2':decide (24≤p)=false:=decide_eq_false (by omega)
 have d3':decide ((tok:Int)<0)=false:=decide_eq_false (by omega)
 have d4':decide (M.v≤(tok:Int))=false:=decide_eq_false (by omega)
 have hn24:n≤24:=by omega
 have hcn':p-seeZ p M.n=(n:Int):=hcn.symm
 have hb0:=bNw (bNw (Below.refl w.heap.size w) (.cells #[.int .i64 M.d,.int .i64 M.h,.int .i64 M.l,.int .i64 M.v,.int .i64 M.u,.int .i64 M.x,.int .i64 M.t,.int .i64 M.n,.slice E.a E.n E.c,.slice (some x0) M.m.ln L.c,.slice N.a N.n N.c,.slice O.a O.n O.c] 27)) (.cells #[.int .i64 M.r,.int .i64 M.s,.slice La.a La.n La.c] 30)
 have q1:Blk 27 ((w.alloc (.cells #[.int .i64 M.d,.int .i64 M.h,.int .i64 M.l,.int .i64 M.v,.int .i64 M.u,.int .i64 M.x,.int .i64 M.t,.int .i64 M.n,.slice E.a E.n E.c,.slice (some x0) M.m.ln L.c,.slice N.a N.n N.c,.slice O.a O.n O.c] 27)).alloc (.cells #[.int .i64 M.r,.int .i64 M.s,.slice La.a La.n La.c] 30)) w.heap.size #[.int .i64 M.d,.int .i64 M.h,.int .i64 M.l,.int .i64 M.v,.int .i64 M.u,.int .i64 M.x,.int .i64 M.t,.int .i64 M.n,.slice E.a E.n E.c,.slice (some x0) M.m.ln L.c,.slice N.a N.n N.c,.slice O.a O.n O.c]:=(Blk.new 27 w _).kept (bNw (Below.refl _ _) _)
 have q2:Blk 30 ((w.alloc (.cells #[.int .i64 M.d,.int .i64 M.h,.int .i64 M.l,.int .i64 M.v,.int .i64 M.u,.int .i64 M.x,.int .i64 M.t,.int .i64 M.n,.slice E.a E.n E.c,.slice (some x0) M.m.ln L.c,.slice N.a N.n N.c,.slice O.a O.n O.c] 27)).alloc (.cells #[.int .i64 M.r,.int .i64 M.s,.slice La.a La.n La.c] 30)) (w.heap.size+1) #[.int .i64 M.r,.int .i64 M.s,.slice La.a La.n La.c]:=Blk.new_at 30 (w.alloc _) _ _ (by simp)
 have kE:Calls Tryz.prog 31 #[.agg #[.int .i64 M.d,.int .i64 M.h,.int .i64 M.l,.int .i64 M.v,.int .i64 M.u,.int .i64 M.x,.int .i64 M.t,.int .i64 M.n,.slice E.a E.n E.c,.slice (some x0) M.m.ln L.c,.slice N.a N.n N.c,.slice O.a O.n O.c],.agg #[.int .i64 M.r,.int .i64 M.s,.slice La.a La.n La.c]] ((w.alloc (.cells #[.int .i64 M.d,.int .i64 M.h,.int .i64 M.l,.int .i64 M.v,.int .i64 M.u,.int .i64 M.x,.int .i64 M.t,.int .i64 M.n,.slice E.a E.n E.c,.slice (some x0) M.m.ln L.c,.slice N.a N.n N.c,.slice O.a O.n O.c] 27)).alloc (.cells #[.int .i64 M.r,.int .i64 M.s,.slice La.a La.n La.c] 30)) fun e w'=>e=.returned (.int .i64 (badE M))∧Below ((w.alloc (.cells #[.int .i64 M.d,.int .i64 M.h,.int .i64 M.l,.int .i64 M.v,.int .i64 M.u,.int .i64 M.x,.int .i64 M.t,.int .i64 M.n,.slice E.a E.n E.c,.slice (some x0) M.m.ln L.c,.slice N.a N.n N.c,.slice O.a O.n O.c] 27)).alloc (.cells #[.int .i64 M.r,.int .i64 M.s,.slice La.a La.n La.c] 30)).heap.size ((w.alloc (.cells #[.int .i64 M.d,.int .i64 M.h,.int .i64 M.l,.int .i64 M.v,.int .i64 M.u,.int .i64 M.x,.int .i64 M.t,.int .i64 M.n,.slice E.a E.n E.c,.slice (some x0) M.m.ln L.c,.slice N.a N.n N.c,.slice O.a O.n O.c] 27)).alloc (.cells #[.int .i64 M.r,.int .i64 M.s,.slice La.a La.n La.c] 30)) w':=by
  have:=rdcheck_call M E L N O Y U D La Ya ((w.alloc (.cells #[.int .i64 M.d,.int .i64 M.h,.int .i64 M.l,.int .i64 M.v,.int .i64 M.u,.int .i64 M.x,.int .i64 M.t,.int .i64 M.n,.slice E.a E.n E.c,.slice (some x0) M.m.ln L.c,.slice N.a N.n N.c,.slice O.a O.n O.c] 27)).alloc (.cells #[.int .i64 M.r,.int .i64 M.s,.slice La.a La.n La.c] 30)) (hM.below hb0) (hA.below hb0) hml hal
  rw[hx0,hM.len] at this
  exact this
 rw[hE] at kE
 have Hcn:=hdn hcn'
 obtain⟨V,hV⟩:∃ V:Nat,M.v=V:=⟨M.v.toNat,by have:=F.v0;omega⟩
 have elen':E.n=V*M.D:=by
  have h:=F.e
  rw[hM.e.reads.len,hV,←Int.natCast_mul] at h
  exact Int.ofNat.inj h
 have hpp:(tok+1)*M.D≤V*M.D:=Nat.mul_le_mul_right _ (by omega)
 rw[Nat.succ_mul] at hpp
 obtain⟨T,eT⟩:∃ T,tok*M.D=T:=⟨_,rfl⟩
 have ip:(tok:Int)*M.d=(T:Int):=by rw[F.eD,←eT,Int.natCast_mul]
 have hT:T≤128:=by
  have:V*M.D≤16*8:=Nat.mul_le_mul (by have:=F.v1;omega) d1
  omega
 have hin:∀ j,j<M.D→T+j<E.n:=fun j hj=>by omega
 obtain⟨ye,hye⟩:∃ y,E.a=some y:=hM.e.reads.some_ (by have:=hin 0 hD0;omega)
 have hEr:=hM.e.reads
 rw[hye] at hEr kE q1 hb0 q2 ⊢
 obtain⟨embF,hembF⟩:∃ f:Nat→Int,f=fun j=>M.m.e.getD (T+j) 0*1024:=⟨_,rfl⟩
 have cEmb:=fun (j:Nat) (hj:j<M.D)=>emb_at M tok j hj
 rw[eT] at cEmb
 clear eT elen' hpp hV
 have kn:=fun (W:World) (hb:Below w.heap.size w W) a c xs=>rd_rms F N _ F.nm W (hM.nm.below hb) a c xs
 have kly:∀ (W:World) (hb:Below w.heap.size w W) (k:Nat) (hk:k<M.m.ln) (G:Nat→SL) (hG:M.r≠0→∀ j,j<4→IsS W (G j) (M.a.f k j)) (ax:Option Addr) (cx:Nat) (x:List Int) (hx:Reads .i64 W ax M.D x),Calls Tryz.prog 33 #[.agg #[.int .i64 M.d,.int .i64 M.h,.int .i64 M.l,.int .i64 M.v,.int .i64 M.u,.int .i64 M.x,.int .i64 M.t,.int .i64 M.n,.slice (some ye) E.n E.c,.slice (some x0) M.m.ln L.c,.slice N.a N.n N.c,.slice O.a O.n O.c],.int .i64 k,.agg #[.int .i64 M.r,.int .i64 M.s,.slice La.a La.n La.c],.agg #[.slice (G 0).a (G 0).n (G 0).c,.slice (G 1).a (G 1).n (G 1).c,.slice (G 2).a (G 2).n (G 2).c,.slice (G 3).a (G 3).n (G 3).c],.slice pa n pc,.int .i64 p,.slice ax M.D cx] W fun e w'=>(∃ a c b k',e=.returned (.tuple #[.slice a M.D c,.slice b (M.D+M.D) k'])∧Reads .i64 w' a M.D (wkL M k x (oL M p P n k x))∧Reads .i64 w' b (M.D+M.D) (kL M p k x++vL M k x)∧∀ x,a=some x→W.heap.size≤x.block)∧Below W.heap.size W w':=fun W hb k hk G hG ax cx x hx=>by
  have:=mdlayer_call M E L N O Y U D La Ya G F hok k hk p ⟨hp.1,by omega⟩ W (hM.below hb) hG pa n pc A C P (hP.below hb) hC hW (by omega) ax cx x hx
  rw[hx0,hM.len,hye] at this
  exact this
 clear hE hcn
 go_enter Tryz.func13,Tryz.ntmps13
 go_wp2_with (first
  | (go_at_call 31;refine kE.mono ?_;rintro e W1 ⟨rfl,h1⟩;have hb1:=bTn hb0 h1;have Q1:=hdn (q1.kept h1);have Q2:=hdn (q2.kept h1);obtain⟨a0,a1,a2,a3,a4,a5,a6,a7,a8,a9,a10,a11⟩:=(q1.kept h1).c12;clear h1 hb0 q1 q2 kE)
  | (go_at_call 32;refine (refVisible_call p M.n wp wn _).mono ?_;rintro e w' ⟨rfl,hq⟩;obtain rfl:=hq.symm;clear hq))
 go_loopw [15,16] (fun vb i wr=>∃ k:Nat,k≤n∧i=.int .i64 k∧vb=.bool true∧Below w.heap.size w wr∧Blk 27 wr w.heap.size #[.int .i64 M.d,.int .i64 M.h,.int .i64 M.l,.int .i64 M.v,.int .i64 M.u,.int .i64 M.x,.int .i64 M.t,.int .i64 M.n,.slice (some ye) E.n E.c,.slice (some x0) M.m.ln L.c,.slice N.a N.n N.c,.slice O.a O.n O.c]∧Blk 30 wr (w.heap.size+1) #[.int .i64 M.r,.int .i64 M.s,.slice La.a La.n La.c]∧Blk 23 wr W1.heap.size #[.int .i64 M.d,.int .i64 M.h,.int .i64 M.l,.int .i64 M.v,.int .i64 M.u,.int .i64 M.x,.int .i64 M.t,.int .i64 M.n]) (fun _ i _=>n-(intOf i).toNat)
 case atStart=>exact⟨0,Nat.zero_le _,rfl,rfl,bNw hb1 _,Q1.out.kept (bNw (Below.refl _ _) _),Q2.out.kept (bNw (Below.refl _ _) _),Blk.new 23 W1 _⟩
 case round =>
  clear hb1 Q1 Q2 a0 a1 a2 a3 a4 a5 a6 a7 a8 a9 a10 a11 d1' d2' d3' d4'
  obtain⟨k,hk,rfl,rfl,hbr,qm,qa_,qc⟩:=hrel
  by_cases hlt:k<n
  ·obtain⟨x,rfl⟩:=hP.some_ (by omega)
   have heq:((P k).length:Int)==widthZ M.d M.h M.l M.v M.u M.x M.t M.n:=by rw[ewd,hW k hlt];simp
   have Q3:=hdn qc
   have Q1:=hdn qm
   have Q2:=hdn qa_
   clear qc qm qa_
   go_wp2
   refine sp8_region M W1.heap.size n pc k (P k).length (C k) x (A k) (widthZ M.d M.h M.l M.v M.u M.x M.t M.n) true (fun W=>Below wr.heap.size wr W) (by kernel_rfl) rfl ⟨_,rfl,rfl,rfl,rfl,by kernel_rfl⟩ ⟨_,rfl,rfl,rfl,rfl,by kernel_rfl⟩ ⟨_,rfl,rfl,rfl,rfl,by kernel_rfl⟩ ⟨_,rfl,rfl,rfl,rfl,by kernel_rfl⟩ ⟨_,rfl,rfl,rfl,rfl,by kernel_rfl⟩ ⟨_,rfl,rfl,rfl,rfl,by kernel_rfl⟩ ⟨_,rfl,rfl,rfl,rfl,by kernel_rfl⟩ ⟨_,rfl,rfl,rfl,rfl,by kernel_rfl⟩ ⟨_,rfl,rfl,rfl,rfl,by kernel_rfl⟩ (Below.refl _ _).drew (run_index31 x n pc k hlt) (fun W hb=>run_load34 (((hP.below hbr).below hb).cell x rfl k hlt)) (fun W hb=>run_load23 (Q3.out.kept hb)) (fun W hb=>(rd_width M.d M.h M.l M.v M.u M.x M.t M.n W).mono fun e w' ⟨q1,q2⟩=>⟨q1,q2,bTn hb q2⟩) (fun W=>by rw[run_eql,heq]) rfl rfl rfl (Nat.le_of_ble_eq_true rfl) ?_
   intro a W9 hs hd hkp hS9 hval
   have e15:a.tmps.getD 15 undef=.bool true:=hval 8 15 (by decide) rfl
   have ep:=fPu [70,71,72,73,74,75,76,77,15] hs hd (fun s h=>hkp s (fun i hi e=>h (by
    rcases (show i=0∨i=1∨i=2∨i=3∨i=4∨i=5∨i=6∨i=7∨i=8 by omega) with rfl|rfl|rfl|rfl|rfl|rfl|rfl|rfl|rfl<;>(simp only[sp8D,Option.some.injEq] at e;subst e;simp))))
   simp only[List.foldl] at ep
   rw[e15] at ep
   have H9:=hdn hS9
   clear hs hd hkp hval hS9 e15
   generalize a.tmps.getD 70 undef=g70,a.tmps.getD 71 undef=g71,a.tmps.getD 72 undef=g72,a.tmps.getD 73 undef=g73,a.tmps.getD 74 undef=g74,a.tmps.getD 75 undef=g75,a.tmps.getD 76 undef=g76,a.tmps.getD 77 undef=g77 at ep
   simp only[Act.put,List.setIfInBounds_toArray,List.set_cons_succ,List.set_cons_zero] at ep
   subst ep
   have R:=hdn (⟨bTn hbr H9.out,Q1.out.kept H9.out,Q2.out.kept H9.out,Q3.out.kept H9.out⟩:Below w.heap.size w W9∧Blk 27 W9 w.heap.size #[.int .i64 M.d,.int .i64 M.h,.int .i64 M.l,.int .i64 M.v,.int .i64 M.u,.int .i64 M.x,.int .i64 M.t,.int .i64 M.n,.slice (some ye) E.n E.c,.slice (some x0) M.m.ln L.c,.slice N.a N.n N.c,.slice O.a O.n O.c]∧Blk 30 W9 (w.heap.size+1) #[.int .i64 M.r,.int .i64 M.s,.slice La.a La.n La.c]∧Blk 23 W9 W1.heap.size #[.int .i64 M.d,.int .i64 M.h,.int .i64 M.l,.int .i64 M.v,.int .i64 M.u,.int .i64 M.x,.int .i64 M.t,.int .i64 M.n])
   clear H9 heq Q1 Q2 Q3 hbr
   go_wp2
   go_roundw
   case rel=>exact⟨k+1,by omega,by go_num,rfl,R.out⟩
   case measure=>simp[intOf];omega
  ·have e:n=k:=by omega
   subst e
   have R:=hdn (⟨hbr,qm,qa_,qc⟩:Below w.heap.size w wr∧Blk 27 wr w.heap.size #[.int .i64 M.d,.int .i64 M.h,.int .i64 M.l,.int .i64 M.v,.int .i64 M.u,.int .i64 M.x,.int .i64 M.t,.int .i64 M.n,.slice (some ye) E.n E.c,.slice (some x0) M.m.ln L.c,.slice N.a N.n N.c,.slice O.a O.n O.c]∧Blk 30 wr (w.heap.size+1) #[.int .i64 M.r,.int .i64 M.s,.slice La.a La.n La.c]∧Blk 23 wr W1.heap.size #[.int .i64 M.d,.int .i64 M.h,.int .i64 M.l,.int .i64 M.v,.int .i64 M.u,.int .i64 M.x,.int .i64 M.t,.int .i64 M.n])
   have c0:=qc.cell 0 (v:=.int .i64 M.d) rfl
   clear hk hlt hbr qm qa_ qc
   go_wp2
   go_loopw [17,19] (fun vx i wr=>∃ k:Nat,k≤M.D∧i=.int .i64 k∧Below w.heap.size w wr∧Blk 27 wr w.heap.size #[.int .i64 M.d,.int .i64 M.h,.int .i64 M.l,.int .i64 M.v,.int .i64 M.u,.int .i64 M.x,.int .i64 M.t,.int .i64 M.n,.slice (some ye) E.n E.c,.slice (some x0) M.m.ln L.c,.slice N.a N.n N.c,.slice O.a O.n O.c]∧Blk 30 wr (w.heap.size+1) #[.int .i64 M.r,.int .i64 M.s,.slice La.a La.n La.c]∧Blk 23 wr W1.heap.size #[.int .i64 M.d,.int .i64 M.h,.int .i64 M.l,.int .i64 M.v,.int .i64 M.u,.int .i64 M.x,.int .i64 M.t,.int .i64 M.n]∧wr.ownsRow w.heap.size 2 1 vx k (gath embF .i64 k)) (fun _ i _=>M.D-(intOf i).toNat)
   case atStart=>exact⟨0,Nat.zero_le _,rfl,R.out.1,R.out.2.1,R.out.2.2.1,R.out.2.2.2,World.ownsRow_nil _ _ _ _⟩
   case round =>
    clear R c0
    obtain⟨k,hk,rfl,hbr,qm,qa_,qc,ho⟩:=hrel
    have c0:=qc.cell 0 (v:=.int .i64 M.d) rfl
    by_cases hlt:k<M.D
    ·have hsz:=hbr.size
     have hd:decide ((k:Int)<M.d)=true:=decide_eq_true (by rw[F.eD];omega)
     have c8:=qm.cell 8 (v:=.slice (some ye) E.n E.c) rfl
     have hin':=hin k hlt
     have cy:=(hEr.below hbr).cell ye rfl (T+k) hin'
     have wq:=wf_i8' (hEr.wf (T+k))
     have ek:Hid (M.m.e.getD (T+k) 0*1024=embF k):=(by rw[hembF]:_=_)
     obtain⟨Q,eQ⟩:∃ Q,T+k=Q:=⟨_,rfl⟩
     have iQ:(T:Int)+(k:Int)=(Q:Int):=by omega
     rw[eQ] at cy hin' ek wq
     obtain⟨X,eX⟩:∃ X,M.m.e.getD Q 0=X:=⟨_,rfl⟩
     rw[eX] at cy ek wq
     have R:=hdn (⟨hbr,qm,qa_,qc⟩:Below w.heap.size w wr∧Blk 27 wr w.heap.size #[.int .i64 M.d,.int .i64 M.h,.int .i64 M.l,.int .i64 M.v,.int .i64 M.u,.int .i64 M.x,.int .i64 M.t,.int .i64 M.n,.slice (some ye) E.n E.c,.slice (some x0) M.m.ln L.c,.slice N.a N.n N.c,.slice O.a O.n O.c]∧Blk 30 wr (w.heap.size+1) #[.int .i64 M.r,.int .i64 M.s,.slice La.a La.n La.c]∧Blk 23 wr W1.heap.size #[.int .i64 M.d,.int .i64 M.h,.int .i64 M.l,.int .i64 M.v,.int .i64 M.u,.int .i64 M.x,.int .i64 M.t,.int .i64 M.n])
     clear eQ eX qm qa_ qc
     go_wp2_with (first
      | (at_builtin;refine wpList_append_own _ rfl (.tmp 86) (.tmp 99) 34 rfl w.heap.size 2 i0 (.int .i64 0) 1 8 Tryz.underlying34 hi2 hz0 hz1 hz2 rfl (by decide) _ _ _ rfl (ho.alloc _) ⟨_,0,none⟩ 1 1 [.int .i64 (X*1024)] rfl rfl (one_new _ _ _) (oOc _ _) (by unfold maxLen;omega) (by omega) (by simp;omega) ?_;intro v' w1 ho' hg _))
     go_roundw
     case rel=>exact⟨k+1,by omega,by go_num,(aSt hsz ek.out R.out.1 ho ho' hg).1,(R.out.2.1.kept (bNw (Below.refl _ _) _)).own_kept (ho.alloc _) (by decide) hg,(R.out.2.2.1.kept (bNw (Below.refl _ _) _)).own_kept (ho.alloc _) (by decide) hg,(R.out.2.2.2.kept (bNw (Below.refl _ _) _)).own_kept (ho.alloc _) (by decide) hg,(aSt hsz ek.out R.out.1 ho ho' hg).2⟩
     case measure=>simp[intOf];omega
    ·have e:k=M.D:=by omega
     subst e
     have hd:decide ((M.D:Int)<M.d)=false:=decide_eq_false (by rw[F.eD];omega)
     obtain⟨ax,cx,rfl,rx⟩:=oRe (zs:=embL M tok) ho (embL_length M tok) (wf_embL hEr.wf tok) (fun j hj=>by rw[gath_at _ _ _ _ hj,cEmb j hj,hembF])
     have R:=hdn (⟨hbr,qm,qa_,qc⟩:Below w.heap.size w wr∧Blk 27 wr w.heap.size #[.int .i64 M.d,.int .i64 M.h,.int .i64 M.l,.int .i64 M.v,.int .i64 M.u,.int .i64 M.x,.int .i64 M.t,.int .i64 M.n,.slice (some ye) E.n E.c,.slice (some x0) M.m.ln L.c,.slice N.a N.n N.c,.slice O.a O.n O.c]∧Blk 30 wr (w.heap.size+1) #[.int .i64 M.r,.int .i64 M.s,.slice La.a La.n La.c]∧Blk 23 wr W1.heap.size #[.int .i64 M.d,.int .i64 M.h,.int .i64 M.l,.int .i64 M.v,.int .i64 M.u,.int .i64 M.x,.int .i64 M.t,.int .i64 M.n])
     have c2:=qc.cell 2 (v:=.int .i64 M.l) rfl
     clear hk hlt hbr qm qa_ qc ho hembF cEmb hin ip hT
     go_wp2
     go_loopw [17,18,20] (fun vx vr i wr=>∃ k:Nat,k≤M.m.ln∧i=.int .i64 k∧Below w.heap.size w wr∧Blk 27 wr w.heap.size #[.int .i64 M.d,.int .i64 M.h,.int .i64 M.l,.int .i64 M.v,.int .i64 M.u,.int .i64 M.x,.int .i64 M.t,.int .i64 M.n,.slice (some ye) E.n E.c,.slice (some x0) M.m.ln L.c,.slice N.a N.n N.c,.slice O.a O.n O.c]∧Blk 30 wr (w.heap.size+1) #[.int .i64 M.r,.int .i64 M.s,.slice La.a La.n La.c]∧Blk 23 wr W1.heap.size #[.int .i64 M.d,.int .i64 M.h,.int .i64 M.l,.int .i64 M.v,.int .i64 M.u,.int .i64 M.x,.int .i64 M.t,.int .i64 M.n]∧∃ (m:Nat) (ax:Option Addr) (cx:Nat),m=2*k*M.D∧vx=.slice ax M.D cx∧Reads .i64 wr ax M.D (stX M p P n tok k)∧wr.ownsRow w.heap.size 2 1 vr m ((stR M p P n tok k).map (Value.int .i64))∧∀ y,ax=some y→∀ g,vr.ownBlock=some g→y.block≠g) (fun _ _ i _=>M.m.ln-(intOf i).toNat)
     case atStart=>exact⟨0,Nat.zero_le _,rfl,R.out.1,R.out.2.1,R.out.2.2.1,R.out.2.2.2,0,ax,cx,by omega,rfl,rx,World.ownsRow_nil _ _ _ _,fun y hy g hg=>by cases hg⟩
     case round =>
      clear R c0 c2 rx hd
      obtain⟨k,hk,rfl,hbr,qm,qa_,qc,m,ax,cx,em,rfl,rx,ho,hap⟩:=hrel
      have c2:=qc.cell 2 (v:=.int .i64 M.l) rfl
      obtain⟨s0,s1,s2⟩:=qa_.c3
      by_cases hlt:k<M.m.ln
      ·have hd:decide ((k:Int)<M.l)=true:=decide_eq_true (by rw[F.el];omega)
       have R:=hdn (⟨hbr,qm,qa_,qc⟩:Below w.heap.size w wr∧Blk 27 wr w.heap.size #[.int .i64 M.d,.int .i64 M.h,.int .i64 M.l,.int .i64 M.v,.int .i64 M.u,.int .i64 M.x,.int .i64 M.t,.int .i64 M.n,.slice (some ye) E.n E.c,.slice (some x0) M.m.ln L.c,.slice N.a N.n N.c,.slice O.a O.n O.c]∧Blk 30 wr (w.heap.size+1) #[.int .i64 M.r,.int .i64 M.s,.slice La.a La.n La.c]∧Blk 23 wr W1.heap.size #[.int .i64 M.d,.int .i64 M.h,.int .i64 M.l,.int .i64 M.v,.int .i64 M.u,.int .i64 M.x,.int .i64 M.t,.int .i64 M.n])
       have HO:=hdn ho
       clear qm qa_ qc ho hap s0 s1 s2
       have hbG:Below wr.heap.size wr (wr.alloc (.cells #[.slice none 0 0,.slice none 0 0,.slice none 0 0,.slice none 0 0] 61)):=bNw (Below.refl _ wr) _
       have s0:=(R.out.2.2.1.kept hbG).cell 0 (v:=.int .i64 M.r) rfl
       have hDD:0<M.D+M.D:=by omega
       have hmul:(k+1)*M.D≤M.m.ln*M.D:=Nat.mul_le_mul_right _ (by omega)
       rw[Nat.succ_mul] at hmul
       have e1:m=2*(k*M.D):=by rw[em,Nat.mul_assoc]
       have e2:2*M.m.ln*M.D=2*(M.m.ln*M.D):=Nat.mul_assoc _ _ _
       have hm32:m+(M.D+M.D)≤32:=by omega
       have enm:m+(M.D+M.D)=2*(k+1)*M.D:=by rw[em,show 2*(k+1)=2*k+2 by omega,Nat.add_mul];omega
       clear hmul e1 e2 em
       by_cases hr0:M.r=0
       ·have z:(M.r != 0)=false:=by simp[hr0]
        have hX:Below w.heap.size w (wr.alloc (.cells #[.slice none 0 0,.slice none 0 0,.slice none 0 0,.slice none 0 0] 61)):=bTn hbr hbG
        have U1:=hdn (R.out.2.1.kept hbG)
        have U2:=hdn (R.out.2.2.1.kept hbG)
        have U3:=hdn (R.out.2.2.2.kept hbG)
        have ug:Blk 61 (wr.alloc (.cells #[.slice none 0 0,.slice none 0 0,.slice none 0 0,.slice none 0 0] 61)) wr.heap.size #[.slice none 0 0,.slice none 0 0,.slice none 0 0,.slice none 0 0]:=Blk.new 61 wr _
        have rxX:=rx.below hbG
        have HOX:=hdn (oBe HO.out hbG)
        have fX:=hbG.size
        obtain⟨a0,a1,a2,a3,a4,a5_,a6,a7,a8,a9,a10,a11⟩:=U1.out.c12
        obtain⟨t0,t1,t2⟩:=U2.out.c3
        obtain⟨g0,g1,g2,g3⟩:=ug.c4
        have hG0:M.r≠0→∀ j,j<4→IsS (wr.alloc (.cells #[.slice none 0 0,.slice none 0 0,.slice none 0 0,.slice none 0 0] 61)) ((fun _=>⟨none,0,0⟩:Nat→SL) j) (M.a.f k j):=fun h=>absurd hr0 h
        have Ug:=hdn ug
        clear ug
        clear hr0
        go_wp2_with (first
         | (go_at_call 33;refine (kly _ hX k hlt (fun _=>⟨none,0,0⟩:Nat→SL) hG0 _ _ _ rxX).mono ?_;rintro e W5 ⟨⟨a5,c5,b5,k5,rfl,r5,rb5,f5⟩,h5⟩;have hb5:=bTn hX h5;have V1:=hdn (U1.out.kept h5);have V2:=hdn (U2.out.kept h5);have V3:=hdn (U3.out.kept h5);have HO5:=hdn (oBe HOX.out h5);obtain⟨yb,rfl⟩:=rb5.some_ hDD;have f5':∀ y,a5=some y→wr.heap.size≤y.block:=fun y hy=>Nat.le_trans fX (f5 y hy);clear U1 U2 U3 Ug HOX h5 rxX f5 fX hX a0 a1 a2 a3 a4 a5_ a6 a7 a8 a9 a10 a11 t0 t1 t2 g0 g1 g2 g3)
         | (at_builtin;refine wpList_append_wherem rfl (.tmp 128) (.tmp 129) 34 rfl w.heap.size 2 i0 (.int .i64 0) 8 Tryz.underlying34 hi2 hz0 hz1 hz2 rfl _ m _ rfl HO5.out yb (M.D+M.D) k5 ((kL M p k (stX M p P n tok k)++vL M k (stX M p P n tok k)).map (Value.int .i64)) rfl (by rw[List.length_map];exact rb5.len) (map_cells rb5) map_one (by unfold maxLen;omega) (by omega) hb5.size ?_;intro v6 W6 ho6 hg6 hs6))
        have R6:=hdn (⟨below_append hb5 HO5.out hg6,V1.out.own_kept HO5.out (by decide) hg6,V2.out.own_kept HO5.out (by decide) hg6,V3.out.own_kept HO5.out (by decide) hg6⟩:Below w.heap.size w W6∧Blk 27 W6 w.heap.size #[.int .i64 M.d,.int .i64 M.h,.int .i64 M.l,.int .i64 M.v,.int .i64 M.u,.int .i64 M.x,.int .i64 M.t,.int .i64 M.n,.slice (some ye) E.n E.c,.slice (some x0) M.m.ln L.c,.slice N.a N.n N.c,.slice O.a O.n O.c]∧Blk 30 W6 (w.heap.size+1) #[.int .i64 M.r,.int .i64 M.s,.slice La.a La.n La.c]∧Blk 23 W6 W1.heap.size #[.int .i64 M.d,.int .i64 M.h,.int .i64 M.l,.int .i64 M.v,.int .i64 M.u,.int .i64 M.x,.int .i64 M.t,.int .i64 M.n])
        have ap5:∀ y,a5=some y→∀ g,u18.ownBlock=some g→y.block≠g:=fun y hy g hg=>by have:=(HO.out.lt g hg).2;have:=f5' y hy;omega
        have r6:=r5.grown hg6 (fun _ y hy z hz=>ap5 y hy z hz)
        have ap6:Hid (∀ y,a5=some y→∀ g,v6.ownBlock=some g→y.block≠g):=fun y hy=>stays_ne hs6 (ap5 y hy) (reads_lt r5 hy hD0)
        have ho6':=hdn (show W6.ownsRow w.heap.size 2 1 v6 (m+(M.D+M.D)) ((stR M p P n tok (k+1)).map (Value.int .i64)) by have e:stR M p P n tok (k+1)=stR M p P n tok k++(kL M p k (stX M p P n tok k)++vL M k (stX M p P n tok k)):=rfl;rw[e,List.map_append];exact ho6)
        clear HO5 V1 V2 V3 ho6 hg6 hs6 r5 rb5 hb5 ap5 f5'
        go_roundw
        case rel=>exact⟨k+1,by omega,by go_num,R6.out.1,R6.out.2.1,R6.out.2.2.1,R6.out.2.2.2,_,_,_,enm,rfl,r6,ho6'.out,ap6.out⟩
        case measure=>simp[intOf];omega
       ·have z:(M.r != 0)=true:=by simp[hr0]
        obtain⟨RR,AF⟩:=hok hr0
        obtain⟨xa,hxa⟩:=hA.some_ (by rw[AF.ln];omega)
        have hka:k<La.n:=by rw[hA.len,AF.ln];exact hlt
        have hla:La.n≤4611686018427387904:=by rw[hA.len,AF.ln];omega
        have hkA:k<M.a.ln:=by rw[AF.ln];exact hlt
        have bX:Below w.heap.size w (wr.alloc (.cells #[.slice none 0 0,.slice none 0 0,.slice none 0 0,.slice none 0 0] 61)):=bTn hbr hbG
        have s2:=(R.out.2.2.1.kept hbG).cell 2 (v:=.slice La.a La.n La.c) rfl
        rw[hxa] at s2
        obtain⟨PA,ePA,y0,y1,y2,y3⟩:=at_four (y:=Ya k) ((hA.below bX).cell xa hxa k hkA)
        have hGa:∀ W,Below w.heap.size w W→M.r≠0→∀ j,j<4→IsS W (Ya k j) (M.a.f k j):=fun W hb _ j hj=>(hA.lay k hkA j hj).below hb
        have hbY:Below wr.heap.size wr (wr.alloc (.cells #[.slice (Ya k 0).a (Ya k 0).n (Ya k 0).c,.slice (Ya k 1).a (Ya k 1).n (Ya k 1).c,.slice (Ya k 2).a (Ya k 2).n (Ya k 2).c,.slice (Ya k 3).a (Ya k 3).n (Ya k 3).c] 61)):=bNw (Below.refl _ wr) _
        have hX:Below w.heap.size w (wr.alloc (.cells #[.slice (Ya k 0).a (Ya k 0).n (Ya k 0).c,.slice (Ya k 1).a (Ya k 1).n (Ya k 1).c,.slice (Ya k 2).a (Ya k 2).n (Ya k 2).c,.slice (Ya k 3).a (Ya k 3).n (Ya k 3).c] 61)):=bTn hbr hbY
        have U1:=hdn (R.out.2.1.kept hbY)
        have U2:=hdn (R.out.2.2.1.kept hbY)
        have U3:=hdn (R.out.2.2.2.kept hbY)
        have ug:Blk 61 (wr.alloc (.cells #[.slice (Ya k 0).a (Ya k 0).n (Ya k 0).c,.slice (Ya k 1).a (Ya k 1).n (Ya k 1).c,.slice (Ya k 2).a (Ya k 2).n (Ya k 2).c,.slice (Ya k 3).a (Ya k 3).n (Ya k 3).c] 61)) wr.heap.size #[.slice (Ya k 0).a (Ya k 0).n (Ya k 0).c,.slice (Ya k 1).a (Ya k 1).n (Ya k 1).c,.slice (Ya k 2).a (Ya k 2).n (Ya k 2).c,.slice (Ya k 3).a (Ya k 3).n (Ya k 3).c]:=Blk.new 61 wr _
        have rxX:=rx.below hbY
        have HOX:=hdn (oBe HO.out hbY)
        have fX:=hbY.size
        obtain⟨a0,a1,a2,a3,a4,a5_,a6,a7,a8,a9,a10,a11⟩:=U1.out.c12
        obtain⟨t0,t1,t2⟩:=U2.out.c3
        obtain⟨g0,g1,g2,g3⟩:=ug.c4
        have Ug:=hdn ug
        clear ug hbY
        clear hr0 AF bX hxa
        go_wp2_with (first
         | (go_at_call 33;refine (kly _ hX k hlt (Ya k) (hGa _ hX) _ _ _ rxX).mono ?_;rintro e W5 ⟨⟨a5,c5,b5,k5,rfl,r5,rb5,f5⟩,h5⟩;have hb5:=bTn hX h5;have V1:=hdn (U1.out.kept h5);have V2:=hdn (U2.out.kept h5);have V3:=hdn (U3.out.kept h5);have HO5:=hdn (oBe HOX.out h5);obtain⟨yb,rfl⟩:=rb5.some_ hDD;have f5':∀ y,a5=some y→wr.heap.size≤y.block:=fun y hy=>Nat.le_trans fX (f5 y hy);clear U1 U2 U3 Ug HOX h5 rxX f5 fX hX a0 a1 a2 a3 a4 a5_ a6 a7 a8 a9 a10 a11 t0 t1 t2 g0 g1 g2 g3)
         | (at_builtin;refine wpList_append_wherem rfl (.tmp 128) (.tmp 129) 34 rfl w.heap.size 2 i0 (.int .i64 0) 8 Tryz.underlying34 hi2 hz0 hz1 hz2 rfl _ m _ rfl HO5.out yb (M.D+M.D) k5 ((kL M p k (stX M p P n tok k)++vL M k (stX M p P n tok k)).map (Value.int .i64)) rfl (by rw[List.length_map];exact rb5.len) (map_cells rb5) map_one (by unfold maxLen;omega) (by omega) hb5.size ?_;intro v6 W6 ho6 hg6 hs6))
        have R6:=hdn (⟨below_append hb5 HO5.out hg6,V1.out.own_kept HO5.out (by decide) hg6,V2.out.own_kept HO5.out (by decide) hg6,V3.out.own_kept HO5.out (by decide) hg6⟩:Below w.heap.size w W6∧Blk 27 W6 w.heap.size #[.int .i64 M.d,.int .i64 M.h,.int .i64 M.l,.int .i64 M.v,.int .i64 M.u,.int .i64 M.x,.int .i64 M.t,.int .i64 M.n,.slice (some ye) E.n E.c,.slice (some x0) M.m.ln L.c,.slice N.a N.n N.c,.slice O.a O.n O.c]∧Blk 30 W6 (w.heap.size+1) #[.int .i64 M.r,.int .i64 M.s,.slice La.a La.n La.c]∧Blk 23 W6 W1.heap.size #[.int .i64 M.d,.int .i64 M.h,.int .i64 M.l,.int .i64 M.v,.int .i64 M.u,.int .i64 M.x,.int .i64 M.t,.int .i64 M.n])
        have ap5:∀ y,a5=some y→∀ g,u18.ownBlock=some g→y.block≠g:=fun y hy g hg=>by have:=(HO.out.lt g hg).2;have:=f5' y hy;omega
        have r6:=r5.grown hg6 (fun _ y hy z hz=>ap5 y hy z hz)
        have ap6:Hid (∀ y,a5=some y→∀ g,v6.ownBlock=some g→y.block≠g):=fun y hy=>stays_ne hs6 (ap5 y hy) (reads_lt r5 hy hD0)
        have ho6':=hdn (show W6.ownsRow w.heap.size 2 1 v6 (m+(M.D+M.D)) ((stR M p P n tok (k+1)).map (Value.int .i64)) by have e:stR M p P n tok (k+1)=stR M p P n tok k++(kL M p k (stX M p P n tok k)++vL M k (stX M p P n tok k)):=rfl;rw[e,List.map_append];exact ho6)
        clear HO5 V1 V2 V3 ho6 hg6 hs6 r5 rb5 hb5 ap5 f5'
        go_roundw
        case rel=>exact⟨k+1,by omega,by go_num,R6.out.1,R6.out.2.1,R6.out.2.2.1,R6.out.2.2.2,_,_,_,enm,rfl,r6,ho6'.out,ap6.out⟩
        case measure=>simp[intOf];omega
      ·have e:k=M.m.ln:=by omega
       subst e
       have hd:decide ((M.m.ln:Int)<M.l)=false:=decide_eq_false (by rw[F.el];omega)
       have c10:=qm.cell 10 (v:=.slice N.a N.n N.c) rfl
       have lr:=stR_length F p P n tok M.m.ln (Nat.le_refl _)
       rw[←em] at lr
       obtain⟨a,c,rfl,rr⟩:=oRe (zs:=stR M p P n tok M.m.ln) ho lr (fun z hz=>(in_stR M p P n tok M.m.ln z hz).wf) (fun j hj=>map_get _ j (by rw[lr];exact hj))
       have cp:Hid (m≤c):=own_cap ho
       have fr:Hid (∀ x,a=some x→w.heap.size≤x.block):=fun x hx=>(ho.lt x.block (by rw[hx];rfl)).1
       have HE:Hid (m=2*M.m.ln*M.D):=em
       clear ho qm qa_ qc em hap
       go_wp2_with (go_at_call 34;refine (kn _ hbr _ _ _ rx).mono ?_;rintro e W20 ⟨⟨a20,c20,rfl,r20,f20⟩,h20⟩;clear kn;have fo:∀ x,a20=some x→w.heap.size≤x.block:=fun x hx=>Nat.le_trans hbr.size (f20 x hx);have rr20:=rr.below h20;have hb20:=bTn hbr h20;clear h20 rr rx)
       refine bodyPost_ret (v:=.tuple #[.slice a m c,.slice a20 M.D c20,.int .i64 0]) ?_ rfl ⟨⟨a,c,a20,c20,by rw[HE.out],HE.out ▸ rr20,HE.out ▸ cp.out,r20,fr.out,fo⟩,hb20⟩
       simp[results,Tryz.results13,go_sem]
def ms3D (i:Nat):Option Nat:=match i with|0=>some 34|1=>some 35|2=>some 36|3=>some 37|4=>some 11|5=>some 12|_=>none
theorem ms3D_inj:∀ i,i<8→∀ j,j<8→ms3D i=ms3D j→ms3D i≠none→i=j:=by decide
def ms3F (M:Md)(E L N O La:SL)(g:Nat)(k:Nat→Bool)(j:Nat)(q:Value)(w:World):Prop:=match j with
 | 0=>q=.agg #[.int .i64 M.d,.int .i64 M.h,.int .i64 M.l,.int .i64 M.v,.int .i64 M.u,.int .i64 M.x,.int .i64 M.t,.int .i64 M.n,.slice E.a E.n E.c,.slice L.a L.n L.c,.slice N.a N.n N.c,.slice O.a O.n O.c]
 | 2=>q=.agg #[.int .i64 M.r,.int .i64 M.s,.slice La.a La.n La.c]
 | 4=>∃ b,q=.pointer (some ⟨b,0,none⟩)∧g≤b∧b<w.heap.size∧(k 6=false→Blk 27 w b #[.int .i64 0,.int .i64 0,.int .i64 0,.int .i64 0,.int .i64 0,.int .i64 0,.int .i64 0,.int .i64 0,.slice none 0 0,.slice none 0 0,.slice none 0 0,.slice none 0 0])
 | 5=>∃ b,q=.pointer (some ⟨b,0,none⟩)∧g≤b∧b<w.heap.size∧(k 7=false→Blk 30 w b #[.int .i64 0,.int .i64 0,.slice none 0 0])
 | _=>True
theorem ms3_region {id:Nat}{ops:Array Oper}{Q:Exit→Act→World→Prop}{a0:Act}{w0:World}(M:Md)(E L N O:SL)(Y U D:Nat→Nat→SL)(La:SL)(Ya:Nat→Nat→SL)(mb ab:Nat)(hM:ModAt w0 E L N O Y U D M.m)(hA:AdAt w0 La Ya M.a)(hF:Fits M.m)(hFA:FitsA M.a)(qM:Blk 27 w0 mb #[.int .i64 M.d,.int .i64 M.h,.int .i64 M.l,.int .i64 M.v,.int .i64 M.u,.int .i64 M.x,.int .i64 M.t,.int .i64 M.n,.slice E.a E.n E.c,.slice L.a L.n L.c,.slice N.a N.n N.c,.slice O.a O.n O.c])(qA:Blk 30 w0 ab #[.int .i64 M.r,.int .i64 M.s,.slice La.a La.n La.c])
  (hlow:lowB ops=true) (hsz:ops.size=8)
  (o0:OpIn ops 0 (some 34) (.load 27 (.tmp 5)) none []) (o1:OpIn ops 1 (some 35) (.call { callee:=.value (.func 9),args:=#[.tmp 34],argTypes:=#[27] }) none [0]) (o2:OpIn ops 2 (some 36) (.load 30 (.tmp 6)) none []) (o3:OpIn ops 3 (some 37) (.call { callee:=.value (.func 10),args:=#[.tmp 36],argTypes:=#[30] }) none [2]) (o4:OpIn ops 4 (some 11) (.alloc 27) none []) (o5:OpIn ops 5 (some 12) (.alloc 30) none []) (o6:OpIn ops 6 none (.store 27 (.tmp 11) (.tmp 35)) none [1,4]) (o7:OpIn ops 7 none (.store 30 (.tmp 12) (.tmp 37)) none [3,5])
  (um:a0.tmps.getD 5 undef=.pointer (some ⟨mb,0,none⟩)) (ua:a0.tmps.getD 6 undef=.pointer (some ⟨ab,0,none⟩))
  (hs:91≤a0.tmps.size)
  (fin:∀ a w b1 b2 (E' L' N' O' La':SL) (Y' U' D' Ya':Nat→Nat→SL),a.tmps.size=a0.tmps.size→a.defers=a0.defers→(∀ s,(∀ i,i<8→ms3D i≠some s)→a.tmps.getD s undef=a0.tmps.getD s undef)→a.tmps.getD 11 undef=.pointer (some ⟨b1,0,none⟩)→a.tmps.getD 12 undef=.pointer (some ⟨b2,0,none⟩)→Below w0.heap.size w0 w→ModAt w E' L' N' O' Y' U' D' M.m→AdAt w La' Ya' M.a→Blk 27 w b1 #[.int .i64 M.d,.int .i64 M.h,.int .i64 M.l,.int .i64 M.v,.int .i64 M.u,.int .i64 M.x,.int .i64 M.t,.int .i64 M.n,.slice E'.a E'.n E'.c,.slice L'.a L'.n L'.c,.slice N'.a N'.n N'.c,.slice O'.a O'.n O'.c]→Blk 30 w b2 #[.int .i64 M.r,.int .i64 M.s,.slice La'.a La'.n La'.c]→Q .normal a w):(Code.region id ops true).wp Tryz.prog Q a0 w0:=by
 have r9:∀ args w,(callFunc 9 args).run Tryz.prog w=.ok (.enter 9 args) w:=eNo Tryz.func9 (by kernel_rfl) rfl
 have r10:∀ args w,(callFunc 10 args).run Tryz.prog w=.ok (.enter 10 args) w:=eNo Tryz.func10 (by kernel_rfl) rfl
 refine wRi (by kernel_rfl) hlow (Inv 8 ms3D a0 (fun l a w=>Below w0.heap.size w0 w∧CMd M w0.heap.size (l 1) (l 4) (l 5) (l 6) (a.tmps.getD 35 undef) (a.tmps.getD 11 undef) (a.tmps.getD 12 undef) w∧CAd M w0.heap.size (l 3) (l 4) (l 5) (l 7) (a.tmps.getD 37 undef) (a.tmps.getD 11 undef) (a.tmps.getD 12 undef) w) (ms3F M E L N O La w0.heap.size)) (Inv.start ⟨(Below.refl _ _).drew,(fun e=>by cases e),(fun e=>by cases e)⟩) ?_ ?_
 ·intro l i o a w ho hl hcl hdep hI
  have hi:i<8:=by rw[←hsz];exact (Array.getElem?_eq_some_iff.1 ho).1
  have ev:∀ (s:Nat),a.eval (.tmp s)=a.tmps.getD s undef:=fun _=>rfl
  have evf:∀ f,a.eval (.func f)=.func (.func f) #[] #[]:=fun _=>rfl
  have inj:∀ d,ms3D i=some d→∀ j d',j<8→ms3D j=some d'→j≠i→d'≠d:=fun d hd j d' hj hd' hne e=>hne (ms3D_inj j hj i hi (by rw[hd',hd,e]) (by rw[hd'];simp))
  have kp:∀ s,(∀ i,i<8→ms3D i≠some s)→a.tmps.getD s undef=a0.tmps.getD s undef:=hI.kept
  obtain⟨hw,hm,ha⟩:Below w0.heap.size w0 w∧CMd M w0.heap.size (l 1) (l 4) (l 5) (l 6) (a.tmps.getD 35 undef) (a.tmps.getD 11 undef) (a.tmps.getD 12 undef) w∧CAd M w0.heap.size (l 3) (l 4) (l 5) (l 7) (a.tmps.getD 37 undef) (a.tmps.getD 11 undef) (a.tmps.getD 12 undef) w:=hI.world
  have oth:∀ j,j≠i→(l j || j==i)=l j:=fun j hj=>by rw[show (j==i)=false by simp[hj],Bool.or_false]
  have sam:(l i || i==i)=true:=by simp
  have gp:∀ (d:Nat) (v:Value) (s:Nat),d<91→(a.put (some d) v).tmps.getD s undef=if s=d then v else a.tmps.getD s undef:=fun d v s hd=>get_put a d v s (by rw[hI.size];exact Nat.lt_of_lt_of_le hd hs)
  have f4:∀ b w',Below w.heap.size w w'→(b<w.heap.size)→b<w'.heap.size:=fun b w' hb h=>Nat.lt_of_lt_of_le h hb.size
  have keep:∀ {w':World},i≠6→i≠7→Below w.heap.size w w'→∀ j u,j<8→l j=true→j≠i→ms3F M E L N O La w0.heap.size l j u w→ms3F M E L N O La w0.heap.size (fun j=>l j || j==i) j u w':=by
   intro w' n6 n7 hb j u hj _ _ hf
   unfold ms3F at hf ⊢
   dsimp only
   rw[oth 6 (fun e=>n6 e.symm),oth 7 (fun e=>n7 e.symm)]
   rcases (show j=0∨j=1∨j=2∨j=3∨j=4∨j=5∨j=6∨j=7 by omega) with rfl|rfl|rfl|rfl|rfl|rfl|rfl|rfl<;>first
    | exact hf
    | (obtain⟨b,q1,q2,q3,q4⟩:=hf;exact⟨b,q1,q2,f4 b _ hb q3,fun e=>(q4 e).kept hb⟩)
  rcases (show i=0∨i=1∨i=2∨i=3∨i=4∨i=5∨i=6∨i=7 by omega) with rfl|rfl|rfl|rfl|rfl|rfl|rfl|rfl
  ·obtain⟨o',e1,e2,e3,e4,e5⟩:=o0
   obtain rfl:=sOp ho e1
   have dp:=dPo e5 hdep
   have U1:a.tmps.getD 5 undef=_:=(kp 5 (by decide)).trans um
   refine wVa (v:=.agg #[.int .i64 M.d,.int .i64 M.h,.int .i64 M.l,.int .i64 M.v,.int .i64 M.u,.int .i64 M.x,.int .i64 M.t,.int .i64 M.n,.slice E.a E.n E.c,.slice L.a L.n L.c,.slice N.a N.n N.c,.slice O.a O.n O.c]) (w':=w) ho e4 (by simp[execOp,e3,ev,U1,rL7 (qM.kept hw)]) ?_
   rw[e2]
   refine hI.put (by decide) (d:=34) rfl (Nat.lt_of_lt_of_le (by decide) hs) (inj 34 rfl) ?_ rfl (keep (by decide) (by decide) (Below.refl _ _))
   dsimp only
   rw[gp 34 _ 35 (by decide),gp 34 _ 11 (by decide),gp 34 _ 12 (by decide),gp 34 _ 37 (by decide)]
   simp only[oth 1 (by decide),oth 3 (by decide),oth 4 (by decide),oth 5 (by decide),oth 6 (by decide),oth 7 (by decide)]
   exact⟨hw,hm,ha⟩
  ·obtain⟨o',e1,e2,e3,e4,e5⟩:=o1
   obtain rfl:=sOp ho e1
   have dp:=dPo e5 hdep
   have V0:a.tmps.getD 34 undef=.agg #[.int .i64 M.d,.int .i64 M.h,.int .i64 M.l,.int .i64 M.v,.int .i64 M.u,.int .i64 M.x,.int .i64 M.t,.int .i64 M.n,.slice E.a E.n E.c,.slice L.a L.n L.c,.slice N.a N.n N.c,.slice O.a O.n O.c]:=hI.val 0 34 (by decide) rfl (dp 0 (by decide))
   refine wCa (f:=9) (args:=#[.agg #[.int .i64 M.d,.int .i64 M.h,.int .i64 M.l,.int .i64 M.v,.int .i64 M.u,.int .i64 M.x,.int .i64 M.t,.int .i64 M.n,.slice E.a E.n E.c,.slice L.a L.n L.c,.slice N.a N.n N.c,.slice O.a O.n O.c]]) ho e4 (by simp[execOp,e3,resolve,invoke,Deferred.ofValue,r9,ev,evf,V0]) ((own_call M.d M.h M.l M.v M.u M.x M.t M.n E L N O Y U D M.m w (hM.below hw) hF).mono ?_)
   rintro e W ⟨E',L',N',O',Y',U',D',rfl,nw,hb⟩
   refine⟨_,rfl,?_⟩
   rw[e2]
   refine hI.put (by decide) (d:=35) rfl (Nat.lt_of_lt_of_le (by decide) hs) (inj 35 rfl) ?_ trivial (keep (by decide) (by decide) hb)
   dsimp only
   rw[gp 35 _ 35 (by decide),gp 35 _ 11 (by decide),gp 35 _ 12 (by decide),gp 35 _ 37 (by decide)]
   simp only[oth 3 (by decide),oth 4 (by decide),oth 5 (by decide),oth 6 (by decide),oth 7 (by decide)]
   refine⟨bTn hw hb,?_,ha.below hb⟩
   exact fun _=>⟨E',L',N',O',Y',U',D',w.heap.size,W.heap.size,rfl,hw.size,Nat.le_refl _,nw.within,(fun e4' b eb=>by
     obtain⟨b2,p1,p2,p3,p4⟩:∃ b,a.tmps.getD 11 undef=.pointer (some ⟨b,0,none⟩)∧w0.heap.size≤b∧b<w.heap.size∧(l 6=false→Blk 27 w b #[.int .i64 0,.int .i64 0,.int .i64 0,.int .i64 0,.int .i64 0,.int .i64 0,.int .i64 0,.int .i64 0,.slice none 0 0,.slice none 0 0,.slice none 0 0,.slice none 0 0]):=hI.val 4 11 (by decide) rfl e4'
     have:=p1.symm.trans eb
     simp at this
     omega),(fun e4' b eb=>by
     obtain⟨b2,p1,p2,p3,p4⟩:∃ b,a.tmps.getD 12 undef=.pointer (some ⟨b,0,none⟩)∧w0.heap.size≤b∧b<w.heap.size∧(l 7=false→Blk 30 w b #[.int .i64 0,.int .i64 0,.slice none 0 0]):=hI.val 5 12 (by decide) rfl e4'
     have:=p1.symm.trans eb
     simp at this
     omega),(fun e6=>by
     have y:=hcl.dep' o6 e6 1 (by decide)
     rw[hl] at y
     cases y)⟩
  ·obtain⟨o',e1,e2,e3,e4,e5⟩:=o2
   obtain rfl:=sOp ho e1
   have dp:=dPo e5 hdep
   have U1:a.tmps.getD 6 undef=_:=(kp 6 (by decide)).trans ua
   refine wVa (v:=.agg #[.int .i64 M.r,.int .i64 M.s,.slice La.a La.n La.c]) (w':=w) ho e4 (by simp[execOp,e3,ev,U1,rL3 (qA.kept hw)]) ?_
   rw[e2]
   refine hI.put (by decide) (d:=36) rfl (Nat.lt_of_lt_of_le (by decide) hs) (inj 36 rfl) ?_ rfl (keep (by decide) (by decide) (Below.refl _ _))
   dsimp only
   rw[gp 36 _ 35 (by decide),gp 36 _ 11 (by decide),gp 36 _ 12 (by decide),gp 36 _ 37 (by decide)]
   simp only[oth 1 (by decide),oth 3 (by decide),oth 4 (by decide),oth 5 (by decide),oth 6 (by decide),oth 7 (by decide)]
   exact⟨hw,hm,ha⟩
  ·obtain⟨o',e1,e2,e3,e4,e5⟩:=o3
   obtain rfl:=sOp ho e1
   have dp:=dPo e5 hdep
   have V2:a.tmps.getD 36 undef=.agg #[.int .i64 M.r,.int .i64 M.s,.slice La.a La.n La.c]:=hI.val 2 36 (by decide) rfl (dp 2 (by decide))
   refine wCa (f:=10) (args:=#[.agg #[.int .i64 M.r,.int .i64 M.s,.slice La.a La.n La.c]]) ho e4 (by simp[execOp,e3,resolve,invoke,Deferred.ofValue,r10,ev,evf,V2]) ((grown_call M.r M.s La Ya M.a w (hA.below hw) hFA).mono ?_)
   rintro e W ⟨La',Ya',rfl,nw,hb⟩
   refine⟨_,rfl,?_⟩
   rw[e2]
   refine hI.put (by decide) (d:=37) rfl (Nat.lt_of_lt_of_le (by decide) hs) (inj 37 rfl) ?_ trivial (keep (by decide) (by decide) hb)
   dsimp only
   rw[gp 37 _ 35 (by decide),gp 37 _ 11 (by decide),gp 37 _ 12 (by decide),gp 37 _ 37 (by decide)]
   simp only[oth 1 (by decide),oth 4 (by decide),oth 5 (by decide),oth 6 (by decide),oth 7 (by decide)]
   refine⟨bTn hw hb,hm.below hb,?_⟩
   exact fun _=>⟨La',Ya',w.heap.size,W.heap.size,rfl,hw.size,Nat.le_refl _,nw.within,(fun e4' b eb=>by
     obtain⟨b2,p1,p2,p3,p4⟩:∃ b,a.tmps.getD 11 undef=.pointer (some ⟨b,0,none⟩)∧w0.heap.size≤b∧b<w.heap.size∧(l 6=false→Blk 27 w b #[.int .i64 0,.int .i64 0,.int .i64 0,.int .i64 0,.int .i64 0,.int .i64 0,.int .i64 0,.int .i64 0,.slice none 0 0,.slice none 0 0,.slice none 0 0,.slice none 0 0]):=hI.val 4 11 (by decide) rfl e4'
     have:=p1.symm.trans eb
     simp at this
     omega),(fun e4' b eb=>by
     obtain⟨b2,p1,p2,p3,p4⟩:∃ b,a.tmps.getD 12 undef=.pointer (some ⟨b,0,none⟩)∧w0.heap.size≤b∧b<w.heap.size∧(l 7=false→Blk 30 w b #[.int .i64 0,.int .i64 0,.slice none 0 0]):=hI.val 5 12 (by decide) rfl e4'
     have:=p1.symm.trans eb
     simp at this
     omega),(fun e6=>by
     have y:=hcl.dep' o7 e6 3 (by decide)
     rw[hl] at y
     cases y)⟩
  ·obtain⟨o',e1,e2,e3,e4,e5⟩:=o4
   obtain rfl:=sOp ho e1
   have dp:=dPo e5 hdep
   have nd:l 6=false:=by
    cases e:l 6 with
    | false=>rfl
    | true =>
     have y:=hcl.dep' o6 e 4 (by decide)
     rw[hl] at y
     cases y
   have hb:=bNw (Below.refl w.heap.size w) (.cells #[.int .i64 0,.int .i64 0,.int .i64 0,.int .i64 0,.int .i64 0,.int .i64 0,.int .i64 0,.int .i64 0,.slice none 0 0,.slice none 0 0,.slice none 0 0,.slice none 0 0] 27)
   refine wVa (v:=.pointer (some ⟨w.heap.size,0,none⟩)) (w':=w.alloc (.cells #[.int .i64 0,.int .i64 0,.int .i64 0,.int .i64 0,.int .i64 0,.int .i64 0,.int .i64 0,.int .i64 0,.slice none 0 0,.slice none 0 0,.slice none 0 0,.slice none 0 0] 27)) ho e4 (by simp[execOp,e3,run_alloc27]) ?_
   rw[e2]
   refine hI.put (by decide) (d:=11) rfl (Nat.lt_of_lt_of_le (by decide) hs) (inj 11 rfl) ?_ ⟨w.heap.size,rfl,hw.size,by simp,fun _=>Blk.new 27 w _⟩ (keep (by decide) (by decide) hb)
   dsimp only
   rw[gp 11 _ 35 (by decide),gp 11 _ 11 (by decide),gp 11 _ 12 (by decide),gp 11 _ 37 (by decide)]
   simp only[oth 1 (by decide),oth 3 (by decide),oth 5 (by decide),oth 6 (by decide),oth 7 (by decide),sam]
   rw[nd] at hm ⊢
   exact⟨bTn hw hb,hm.lay1 _,ha.lay1 _⟩
  ·obtain⟨o',e1,e2,e3,e4,e5⟩:=o5
   obtain rfl:=sOp ho e1
   have dp:=dPo e5 hdep
   have nd:l 7=false:=by
    cases e:l 7 with
    | false=>rfl
    | true =>
     have y:=hcl.dep' o7 e 5 (by decide)
     rw[hl] at y
     cases y
   have hb:=bNw (Below.refl w.heap.size w) (.cells #[.int .i64 0,.int .i64 0,.slice none 0 0] 30)
   refine wVa (v:=.pointer (some ⟨w.heap.size,0,none⟩)) (w':=w.alloc (.cells #[.int .i64 0,.int .i64 0,.slice none 0 0] 30)) ho e4 (by simp[execOp,e3,run_alloc30]) ?_
   rw[e2]
   refine hI.put (by decide) (d:=12) rfl (Nat.lt_of_lt_of_le (by decide) hs) (inj 12 rfl) ?_ ⟨w.heap.size,rfl,hw.size,by simp,fun _=>Blk.new 30 w _⟩ (keep (by decide) (by decide) hb)
   dsimp only
   rw[gp 12 _ 35 (by decide),gp 12 _ 11 (by decide),gp 12 _ 12 (by decide),gp 12 _ 37 (by decide)]
   simp only[oth 1 (by decide),oth 3 (by decide),oth 4 (by decide),oth 6 (by decide),oth 7 (by decide),sam]
   rw[nd] at ha ⊢
   exact⟨bTn hw hb,hm.lay2 _,ha.lay2 _⟩
  ·obtain⟨o',e1,e2,e3,e4,e5⟩:=o6
   obtain rfl:=sOp ho e1
   have dp:=dPo e5 hdep
   obtain⟨b,V4,gb,lb,q⟩:∃ b,a.tmps.getD 11 undef=.pointer (some ⟨b,0,none⟩)∧w0.heap.size≤b∧b<w.heap.size∧(l 6=false→Blk 27 w b #[.int .i64 0,.int .i64 0,.int .i64 0,.int .i64 0,.int .i64 0,.int .i64 0,.int .i64 0,.int .i64 0,.slice none 0 0,.slice none 0 0,.slice none 0 0,.slice none 0 0]):=hI.val 4 11 (by decide) rfl (dp 4 (by decide))
   replace q:=q hl
   obtain⟨E',L',N',O',Y',U',D',lo,hh,V1,h2,h3,h4,h5,h6,h7⟩:=hm (dp 1 (by decide))
   obtain⟨w',r',q',on,hz⟩:=run_store27 q M E' L' N' O'
   have hb9:Below w0.heap.size w0 w':=Only.below hw gb hw.size on
   refine wSk (w':=w') ho e4 (by simp[execOp,e3,ev,V4,V1,r']) ?_
   rw[e2]
   refine Inv.none_' hI rfl ?_ (fun j dd hj hD hkj hne hf=>?_)
   ·dsimp only
    simp only[oth 1 (by decide),oth 3 (by decide),oth 4 (by decide),oth 5 (by decide),oth 7 (by decide),sam]
    rw[V4] at ha ⊢
    have p4:l 4=true:=dp 4 (by decide)
    rw[p4] at ha h5 ⊢
    refine⟨hb9,?_,ha.other q on (Nat.le_of_eq hz.symm)⟩
    exact fun _=>⟨E',L',N',O',Y',U',D',lo,hh,V1,h2,(by omega),h4.only on (h5 rfl b V4),(fun e' b' eb=>h5 rfl b' (V4.trans eb)),h6,fun _=>⟨b,rfl,gb,q'⟩⟩
   ·unfold ms3F at hf ⊢
    dsimp only
    rw[oth 7 (by decide),sam]
    rcases (show j=0∨j=1∨j=2∨j=3∨j=4∨j=5∨j=6∨j=7 by omega) with rfl|rfl|rfl|rfl|rfl|rfl|rfl|rfl<;>first
     | exact hf
     | (obtain⟨b2,p1,p2,p3,p4⟩:=hf;exact⟨b2,p1,p2,by omega,fun e=>by cases e⟩)
     | (obtain⟨b2,p1,p2,p3,p4⟩:=hf;exact⟨b2,p1,p2,by omega,fun e=>(p4 e).only on ((p4 e).apart q (by decide))⟩)
  ·obtain⟨o',e1,e2,e3,e4,e5⟩:=o7
   obtain rfl:=sOp ho e1
   have dp:=dPo e5 hdep
   obtain⟨b,V5,gb,lb,q⟩:∃ b,a.tmps.getD 12 undef=.pointer (some ⟨b,0,none⟩)∧w0.heap.size≤b∧b<w.heap.size∧(l 7=false→Blk 30 w b #[.int .i64 0,.int .i64 0,.slice none 0 0]):=hI.val 5 12 (by decide) rfl (dp 5 (by decide))
   replace q:=q hl
   obtain⟨La',Ya',lo,hh,V3,h2,h3,h4,h5,h6,h7⟩:=ha (dp 3 (by decide))
   obtain⟨w',r',q',on,hz⟩:=run_store30 q M La'
   have hb9:Below w0.heap.size w0 w':=Only.below hw gb hw.size on
   refine wSk (w':=w') ho e4 (by simp[execOp,e3,ev,V5,V3,r']) ?_
   rw[e2]
   refine Inv.none_' hI rfl ?_ (fun j dd hj hD hkj hne hf=>?_)
   ·dsimp only
    simp only[oth 1 (by decide),oth 3 (by decide),oth 4 (by decide),oth 5 (by decide),oth 6 (by decide),sam]
    rw[V5] at hm ⊢
    have p5:l 5=true:=dp 5 (by decide)
    rw[p5] at hm h6 ⊢
    refine⟨hb9,hm.other q on (Nat.le_of_eq hz.symm),?_⟩
    exact fun _=>⟨La',Ya',lo,hh,V3,h2,(by omega),h4.only on (h6 rfl b V5),h5,(fun e' b' eb=>h6 rfl b' (V5.trans eb)),fun _=>⟨b,rfl,gb,q'⟩⟩
   ·unfold ms3F at hf ⊢
    dsimp only
    rw[oth 6 (by decide),sam]
    rcases (show j=0∨j=1∨j=2∨j=3∨j=4∨j=5∨j=6∨j=7 by omega) with rfl|rfl|rfl|rfl|rfl|rfl|rfl|rfl<;>first
     | exact hf
     | (obtain⟨b2,p1,p2,p3,p4⟩:=hf;exact⟨b2,p1,p2,by omega,fun e=>by cases e⟩)
     | (obtain⟨b2,p1,p2,p3,p4⟩:=hf;exact⟨b2,p1,p2,by omega,fun e=>(p4 e).only on ((p4 e).apart q (by decide))⟩)
 ·intro l a w hall hI
  have all:∀ j,j<8→l j=true:=fun j hj=>hall j (by rw[hsz];exact hj)
  obtain⟨hw,hm,ha⟩:Below w0.heap.size w0 w∧CMd M w0.heap.size (l 1) (l 4) (l 5) (l 6) (a.tmps.getD 35 undef) (a.tmps.getD 11 undef) (a.tmps.getD 12 undef) w∧CAd M w0.heap.size (l 3) (l 4) (l 5) (l 7) (a.tmps.getD 37 undef) (a.tmps.getD 11 undef) (a.tmps.getD 12 undef) w:=hI.world
  obtain⟨E',L',N',O',Y',U',D',lo,hi,V1,h2,h3,h4,h5,h6,h7⟩:=hm (all 1 (by decide))
  obtain⟨La',Ya',lo',hi',V3,k2,k3,k4,k5,k6,k7⟩:=ha (all 3 (by decide))
  obtain⟨b1,x1,y1,z1⟩:=h7 (all 6 (by decide))
  obtain⟨b2,x2,y2,z2⟩:=k7 (all 7 (by decide))
  exact fin a w b1 b2 E' L' N' O' La' Y' U' D' Ya' hI.size hI.defers hI.kept x1 x2 hw h4.at k4.at z1 z2
end Go.Proofs.YthliomlmhfjhnaaGreat

/- Texts put together. -/
import Derived.Test.YthliomlmhfjhnaaGreatRows
import Derived.Test.YthliomlmhfjhnaaGreatZf32
import Derived.Test.YthliomlmhfjhnaaGreatZf30
import Derived.Test.YthliomlmhfjhnaaGreatZf36
import Derived.Test.YthliomlmhfjhnaaGreatZf37
import Derived.Laws.OwnMore
namespace Go.Proofs.YthliomlmhfjhnaaGreat
set_option maxRecDepth 20000
set_option maxHeartbeats 16000000
open Go.ChangeShapes Go.WideShapes Go.ChangeAt Go.RowKit
set_option linter.unusedVariables false
set_option linter.unusedSimpArgs false
section
theorem mdrun_add3 (x y z:Int)(e:x+y=z)(h0:-1000≤z)(h1:z≤1000)(w:World):(binOp .add 3 (.int .i64 x) (.int .i64 y)).run Tryz.prog w=.ok (.int .i64 z) w:=by
 subst e
 have:IntKind.i64.wrap (x+y)=x+y:=by rw[IntKind.wrap_i64];omega
 go_simp
theorem run_sub3 (x y z:Int)(e:x-y=z)(h0:-1000≤z)(h1:z≤1000)(w:World):(binOp .sub 3 (.int .i64 x) (.int .i64 y)).run Tryz.prog w=.ok (.int .i64 z) w:=by
 subst e
 have:IntKind.i64.wrap (x-y)=x-y:=by rw[IntKind.wrap_i64];omega
 go_simp
theorem see_bounds {p v:Int}(hp:0≤p∧p<24)(hv:0≤v∧v≤16):0≤seeZ p v∧seeZ p v≤p:=by
 unfold seeZ
 split
 ·omega
 ·split<;>omega
theorem wOf {M:Md}(F:MdFit M)(ok:okB M.d M.h M.l M.v M.u M.x M.t M.n=true):widthZ M.d M.h M.l M.v M.u M.x M.t M.n=((2*M.m.ln*M.D:Nat):Int):=by
 unfold widthZ
 rw[if_pos ok,F.eD,F.el,Int.natCast_mul,Int.natCast_mul,Int.mul_assoc,Int.mul_assoc,Int.mul_comm (M.D:Int)]
 rfl
theorem wd_bound {M:Md}(F:MdFit M):2*M.m.ln*M.D≤32:=by
 have h:=Nat.mul_le_mul (Nat.mul_le_mul_left 2 F.l1) F.d1
 exact h
theorem wider {w:World}{B B':Nat}{e:TypeId}{v:Value}{n:Nat}{xs:List Value}(h:B≤B')(o:(v=.slice none 0 0∧n=0)∨∃ g cap cur,v=.slice (some ⟨g,0,none⟩) n cap∧B'≤g∧w.heap[g]? = some (.cells cur e (0,0))∧n≤cap∧cap≤maxLen∧cur.size=cap*1∧cur.toList.take (n*1)=xs):(v=.slice none 0 0∧n=0)∨∃ g cap cur,v=.slice (some ⟨g,0,none⟩) n cap∧B≤g∧w.heap[g]? = some (.cells cur e (0,0))∧n≤cap∧cap≤maxLen∧cur.size=cap*1∧cur.toList.take (n*1)=xs:=by
 rcases o with o|⟨g,cap,cur,o1,o2,o3⟩
 ·exact .inl o
 ·exact .inr ⟨g,cap,cur,o1,by omega,o3⟩
theorem OwnGrid.drew {B:Nat}{w:World}{v:Value}{k:Nat}{A:Nat→Option Addr}{C:Nat→Nat}{R:Nat→List Int}(h:OwnGrid B w v k A C R):OwnGrid B w.drew v k A C R:=⟨h.own,fun r hr=>(h.row r hr).carry (fun _ _ hc=>hc),h.apart⟩
theorem map_one {zs:List Int}:∀ u∈zs.map (Value.int .i64),u.oneCell'=true:=fun u hu=>by
 obtain⟨z,_,rfl⟩:=List.mem_map.1 hu
 rfl
theorem map_cells {w:World}{x:Addr}{n:Nat}{zs:List Int}(h:Reads .i64 w (some x) n zs):∀ j u,(zs.map (Value.int .i64))[j]? = some u→w.cell? (x.add j)=some u:=fun j u hu=>by
 have hj:j<zs.length:=by
  have:=(List.getElem?_eq_some_iff.1 hu).1
  simpa using this
 rw[h.cell x rfl j (by rw[←h.len];exact hj),←hu]
 simp[hj]
theorem step_walk (M:Md)(E L N O:SL)(Y U D:Nat→Nat→SL)(La:SL)(Ya:Nat→Nat→SL)(x0:Addr)(F:MdFit M)(ok:okB M.d M.h M.l M.v M.u M.x M.t M.n=true)(hok:M.r≠0→∃ R,AdFit M R)(p:Int)(hp:0≤p∧p<24)(tok:Nat)(ht:(tok:Int)<M.v)(w:World)(hM:ModAt w E L N O Y U D M.m)(hA:AdAt w La Ya M.a)(hx0:L.a=some x0)
  (pa:Option Addr) (n pc:Nat) (A:Nat→Option Addr) (C:Nat→Nat) (P:Nat→List Int) (hP:Grid w pa n A C P) (hC:∀ r,r<n→(P r).length≤C r) (hcn:(n:Int)=p-seeZ p M.n) (hW:∀ r,r<n→(P r).length=2*M.m.ln*M.D) :
  Calls Tryz.prog 30 #[.agg #[.int .i64 M.d,.int .i64 M.h,.int .i64 M.l,.int .i64 M.v,.int .i64 M.u,.int .i64 M.x,.int .i64 M.t,.int .i64 M.n,.slice E.a E.n E.c,.slice (some x0) M.m.ln L.c,.slice N.a N.n N.c,.slice O.a O.n O.c],.agg #[.int .i64 M.r,.int .i64 M.s,.slice La.a La.n La.c],.slice pa n pc,.int .i64 p,.int .i64 tok] w fun e w'=>(∃ a c b k,e=.returned (.tuple #[.slice a (2*M.m.ln*M.D) c,.slice b M.D k])∧Reads .i64 w' a (2*M.m.ln*M.D) (rowL M p P n tok)∧2*M.m.ln*M.D≤c∧Reads .i64 w' b M.D (outL M p P n tok)∧(∀ x,a=some x→w.heap.size≤x.block)∧∀ x,b=some x→w.heap.size≤x.block)∧Below w.heap.size w w':=by
 obtain⟨i0,hi2,hz0,hz1,hz2⟩:=info_parts info2
 have d0:=F.d0
 have d1:=F.d1
 have l0:=F.l0
 have l1:=F.l1
 have hD0:0<M.D:=by omega
 have wdb:=wd_bound F
 have ewd:=wOf F ok
 have sb:=see_bounds hp ⟨F.n0,F.n1⟩
 have wp:(Lit.int .i64 p).wf=true:=wf_small (by omega) (by omega)
 have wn:(Lit.int .i64 M.n).wf=true:=wf_small (by have:=F.n0;omega) (by have:=F.n1;omega)
 have t1:(0:Int)≤p:=hp.1
 have t2:p<24:=hp.2
 have d1':decide ((0:Int)≤p)=true:=decide_eq_true t1
 have d2':decide (p<24)=true:=decide_eq_true t2
 have t3:(0:Int)≤(tok:Int):=by omega
 have t4:(tok:Int)<M.v:=ht
 have d3':decide ((0:Int)≤(tok:Int))=true:=decide_eq_true t3
 have d4':decide ((tok:Int)<M.v)=true:=decide_eq_true t4
 have hn24:n≤24:=by omega
 have kl:∀ (W:World) (hb:Below w.heap.size w W) (k:Nat) (hk:k<M.m.ln) ax cx x (hx:Reads .i64 W ax M.D x),Calls Tryz.prog 60 #[.agg #[.int .i64 M.d,.int .i64 M.h,.int .i64 M.l,.int .i64 M.v,.int .i64 M.u,.int .i64 M.x,.int .i64 M.t,.int .i64 M.n,.slice E.a E.n E.c,.slice (some x0) M.m.ln L.c,.slice N.a N.n N.c,.slice O.a O.n O.c],.agg #[.int .i64 M.r,.int .i64 M.s,.slice La.a La.n La.c],.int .i64 k,.int .i64 p,.slice ax M.D cx] W fun e w'=>(∃ q cq kk ck v cv,e=.returned (.tuple #[.slice q M.D cq,.slice kk M.D ck,.slice v M.D cv])∧(Reads .i64 w' q M.D (qL M p k x)∧M.D≤cq)∧(Reads .i64 w' kk M.D (kL M p k x)∧M.D≤ck)∧(Reads .i64 w' v M.D (vL M k x)∧M.D≤cv∧∀ x,v=some x→W.heap.size≤x.block))∧Below W.heap.size W w':=fun W hb k hk ax cx x hx=>by
  have:=looks_call M E L N O Y U D La Ya F hok k hk p ⟨hp.1,by omega⟩ W (hM.below hb) (hA.below hb) ax cx x hx
  rw[hx0,hM.len] at this
  exact this
 have kw:∀ (W:World) (hb:Below w.heap.size w W) (k:Nat) (hk:k<M.m.ln) ax cx x ao co o (hx:Reads .i64 W ax M.D x) (ho:Reads .i64 W ao M.D o),Calls Tryz.prog 63 #[.agg #[.int .i64 M.d,.int .i64 M.h,.int .i64 M.l,.int .i64 M.v,.int .i64 M.u,.int .i64 M.x,.int .i64 M.t,.int .i64 M.n,.slice E.a E.n E.c,.slice (some x0) M.m.ln L.c,.slice N.a N.n N.c,.slice O.a O.n O.c],.int .i64 k,.slice ax M.D cx,.slice ao M.D co] W fun e w'=>(∃ a c,e=.returned (.slice a M.D c)∧Reads .i64 w' a M.D (wkL M k x o)∧∀ x,a=some x→W.heap.size≤x.block)∧Below W.heap.size W w':=fun W hb k hk ax cx x ao co o hx ho=>worked_walk M E L N O Y U D x0 F k hk W (hM.below hb) hx0 ax cx x ao co o hx ho
 have ke:∀ (W:World) (hb:Below w.heap.size w W),Calls Tryz.prog 59 #[.agg #[.int .i64 M.d,.int .i64 M.h,.int .i64 M.l,.int .i64 M.v,.int .i64 M.u,.int .i64 M.x,.int .i64 M.t,.int .i64 M.n,.slice E.a E.n E.c,.slice (some x0) M.m.ln L.c,.slice N.a N.n N.c,.slice O.a O.n O.c],.int .i64 tok] W fun e w'=>(∃ a c,e=.returned (.slice a M.D c)∧Reads .i64 w' a M.D (embL M tok)∧∀ x,a=some x→W.heap.size≤x.block)∧Below W.heap.size W w':=fun W hb=>by
  have:=embedded_call M E L N O Y U D F W (hM.below hb) tok ht
  rw[hx0,hM.len] at this
  exact this
 have kn:=fun (W:World) (hb:Below w.heap.size w W) a c xs=>md_rms F N _ F.nm W (hM.nm.below hb) a c xs
 have kwd:∀ W,Calls Tryz.prog 15 #[.agg #[.int .i64 M.d,.int .i64 M.h,.int .i64 M.l,.int .i64 M.v,.int .i64 M.u,.int .i64 M.x,.int .i64 M.t,.int .i64 M.n]] W fun e w'=>e=.returned (.int .i64 ((2*M.m.ln*M.D:Nat):Int))∧Below W.heap.size W w':=fun W=>by
  have:=md_width M.d M.h M.l M.v M.u M.x M.t M.n W
  rw[ewd] at this
  exact this
 have hb0:=bNw (bNw (bNw (Below.refl w.heap.size w) (.cells #[.int .i64 M.d,.int .i64 M.h,.int .i64 M.l,.int .i64 M.v,.int .i64 M.u,.int .i64 M.x,.int .i64 M.t,.int .i64 M.n,.slice E.a E.n E.c,.slice (some x0) M.m.ln L.c,.slice N.a N.n N.c,.slice O.a O.n O.c] 27)) (.cells #[.int .i64 M.r,.int .i64 M.s,.slice La.a La.n La.c] 30)) (.cells #[.int .i64 M.d,.int .i64 M.h,.int .i64 M.l,.int .i64 M.v,.int .i64 M.u,.int .i64 M.x,.int .i64 M.t,.int .i64 M.n] 23)
 have q1:Blk 27 (((w.alloc (.cells #[.int .i64 M.d,.int .i64 M.h,.int .i64 M.l,.int .i64 M.v,.int .i64 M.u,.int .i64 M.x,.int .i64 M.t,.int .i64 M.n,.slice E.a E.n E.c,.slice (some x0) M.m.ln L.c,.slice N.a N.n N.c,.slice O.a O.n O.c] 27)).alloc (.cells #[.int .i64 M.r,.int .i64 M.s,.slice La.a La.n La.c] 30)).alloc (.cells #[.int .i64 M.d,.int .i64 M.h,.int .i64 M.l,.int .i64 M.v,.int .i64 M.u,.int .i64 M.x,.int .i64 M.t,.int .i64 M.n] 23)) w.heap.size #[.int .i64 M.d,.int .i64 M.h,.int .i64 M.l,.int .i64 M.v,.int .i64 M.u,.int .i64 M.x,.int .i64 M.t,.int .i64 M.n,.slice E.a E.n E.c,.slice (some x0) M.m.ln L.c,.slice N.a N.n N.c,.slice O.a O.n O.c]:=(Blk.new 27 w _).kept (bNw (bNw (Below.refl _ _) _) _)
 have q2:Blk 30 (((w.alloc (.cells #[.int .i64 M.d,.int .i64 M.h,.int .i64 M.l,.int .i64 M.v,.int .i64 M.u,.int .i64 M.x,.int .i64 M.t,.int .i64 M.n,.slice E.a E.n E.c,.slice (some x0) M.m.ln L.c,.slice N.a N.n N.c,.slice O.a O.n O.c] 27)).alloc (.cells #[.int .i64 M.r,.int .i64 M.s,.slice La.a La.n La.c] 30)).alloc (.cells #[.int .i64 M.d,.int .i64 M.h,.int .i64 M.l,.int .i64 M.v,.int .i64 M.u,.int .i64 M.x,.int .i64 M.t,.int .i64 M.n] 23)) (w.heap.size+1) #[.int .i64 M.r,.int .i64 M.s,.slice La.a La.n La.c]:=(Blk.new_at 30 (w.alloc _) _ _ (by simp)).kept (bNw (Below.refl _ _) _)
 have q3:Blk 23 (((w.alloc (.cells #[.int .i64 M.d,.int .i64 M.h,.int .i64 M.l,.int .i64 M.v,.int .i64 M.u,.int .i64 M.x,.int .i64 M.t,.int .i64 M.n,.slice E.a E.n E.c,.slice (some x0) M.m.ln L.c,.slice N.a N.n N.c,.slice O.a O.n O.c] 27)).alloc (.cells #[.int .i64 M.r,.int .i64 M.s,.slice La.a La.n La.c] 30)).alloc (.cells #[.int .i64 M.d,.int .i64 M.h,.int .i64 M.l,.int .i64 M.v,.int .i64 M.u,.int .i64 M.x,.int .i64 M.t,.int .i64 M.n] 23)) (w.heap.size+1+1) #[.int .i64 M.d,.int .i64 M.h,.int .i64 M.l,.int .i64 M.v,.int .i64 M.u,.int .i64 M.x,.int .i64 M.t,.int .i64 M.n]:=Blk.new_at 23 ((w.alloc _).alloc _) _ _ (by simp)
 obtain⟨wd,eWd⟩:∃ wd,2*M.m.ln*M.D=wd:=⟨_,rfl⟩
 have hln8:=hM.len
 rw[eWd] at hW kwd wdb ewd ⊢
 unfold rowL outL
 have HM:=hdn hM
 clear hM hA
 go_enter Tryz.func30,Tryz.ntmps30
 go_wp2_with (go_at_call 56;refine (mdneed_yes _ _).mono ?_;rintro e w' ⟨rfl,hq⟩;obtain rfl:=hq.symm;clear hq)
 have Q3:=hdn q3
 refine sf_region M (w.heap.size+1+1) n pc pa p (seeZ p M.n) (n:Int) (widthZ M.d M.h M.l M.v M.u M.x M.t M.n) true (fun W=>Below (((w.alloc (.cells #[.int .i64 M.d,.int .i64 M.h,.int .i64 M.l,.int .i64 M.v,.int .i64 M.u,.int .i64 M.x,.int .i64 M.t,.int .i64 M.n,.slice E.a E.n E.c,.slice (some x0) M.m.ln L.c,.slice N.a N.n N.c,.slice O.a O.n O.c] 27)).alloc (.cells #[.int .i64 M.r,.int .i64 M.s,.slice La.a La.n La.c] 30)).alloc (.cells #[.int .i64 M.d,.int .i64 M.h,.int .i64 M.l,.int .i64 M.v,.int .i64 M.u,.int .i64 M.x,.int .i64 M.t,.int .i64 M.n] 23)).heap.size (((w.alloc (.cells #[.int .i64 M.d,.int .i64 M.h,.int .i64 M.l,.int .i64 M.v,.int .i64 M.u,.int .i64 M.x,.int .i64 M.t,.int .i64 M.n,.slice E.a E.n E.c,.slice (some x0) M.m.ln L.c,.slice N.a N.n N.c,.slice O.a O.n O.c] 27)).alloc (.cells #[.int .i64 M.r,.int .i64 M.s,.slice La.a La.n La.c] 30)).alloc (.cells #[.int .i64 M.d,.int .i64 M.h,.int .i64 M.l,.int .i64 M.v,.int .i64 M.u,.int .i64 M.x,.int .i64 M.t,.int .i64 M.n] 23)) W) (by kernel_rfl) rfl ⟨_,rfl,rfl,rfl,rfl,by kernel_rfl⟩ ⟨_,rfl,rfl,rfl,rfl,by kernel_rfl⟩ ⟨_,rfl,rfl,rfl,rfl,by kernel_rfl⟩ ⟨_,rfl,rfl,rfl,rfl,by kernel_rfl⟩ ⟨_,rfl,rfl,rfl,rfl,by kernel_rfl⟩ ⟨_,rfl,rfl,rfl,rfl,by kernel_rfl⟩ ⟨_,rfl,rfl,rfl,rfl,by kernel_rfl⟩ ⟨_,rfl,rfl,rfl,rfl,by kernel_rfl⟩ ⟨_,rfl,rfl,rfl,rfl,by kernel_rfl⟩ ⟨_,rfl,rfl,rfl,rfl,by kernel_rfl⟩ ⟨_,rfl,rfl,rfl,rfl,by kernel_rfl⟩ (Below.refl _ _).drew (run_field23 _ 7 (by omega)) (fun W hb=>run_load3 ((Q3.out.kept hb).cell 7 (v:=.int .i64 M.n) rfl)) (fun W=>visible_call p M.n wp wn W) (fun W=>run_sub3 _ _ _ hcn.symm (by omega) (by omega) W) (fun W hb=>run_load23 (Q3.out.kept hb)) (fun W hb=>(md_width M.d M.h M.l M.v M.u M.x M.t M.n W).mono fun e w' ⟨q1,q2⟩=>⟨q1,q2,bTn hb q2⟩) (fun W hb=>mdfits_loop pa n pc A C P (n:Int) _ W (hP.below (bTn hb0 hb)) rfl true (fun _=>rfl) (fun r hr h=>absurd (by rw[ewd,hW r hr]) h)) (fun W=>mdneed_yes 21 W) rfl rfl rfl (Nat.le_of_ble_eq_true rfl) ?_
 intro a W9 hs hd hkp hS9 hval
 have ep:=fPu [41,42,43,44,45,46,47,48,49,50,51] hs hd (fun s h=>hkp s (fun i hi e=>h (by
  rcases (show i=0∨i=1∨i=2∨i=3∨i=4∨i=5∨i=6∨i=7∨i=8∨i=9∨i=10 by omega) with rfl|rfl|rfl|rfl|rfl|rfl|rfl|rfl|rfl|rfl|rfl<;>(simp only[sfD,Option.some.injEq] at e;subst e;simp))))
 simp only[List.foldl] at ep
 have H9:=hdn hS9
 clear hs hd hkp hval hS9
 generalize a.tmps.getD 41 undef=g41,a.tmps.getD 42 undef=g42,a.tmps.getD 43 undef=g43,a.tmps.getD 44 undef=g44,a.tmps.getD 45 undef=g45,a.tmps.getD 46 undef=g46,a.tmps.getD 47 undef=g47,a.tmps.getD 48 undef=g48,a.tmps.getD 49 undef=g49,a.tmps.getD 50 undef=g50,a.tmps.getD 51 undef=g51 at ep
 simp only[Act.put,List.setIfInBounds_toArray,List.set_cons_succ,List.set_cons_zero] at ep
 subst ep
 have hb9:=bTn hb0 H9.out
 have Q1:=hdn (q1.kept H9.out)
 have Q2:=hdn (q2.kept H9.out)
 have Q3':=hdn (Q3.out.kept H9.out)
 clear Q3
 have Q3:=Q3'
 clear Q3' q1 q2 q3 hb0 d1' d2' d3' d4' hcn sb H9
 obtain⟨z0,z1,z2,z3,z4,z5,z6,z7⟩:=Q3.out.c8
 go_wp2_with (first
  | (go_at_call 15;refine (kwd _).mono ?_;rintro e W10 ⟨rfl,h10⟩;clear kwd;have hb10:=bTn hb9 h10;have Q1':=hdn (Q1.out.kept h10);have Q2':=hdn (Q2.out.kept h10);have Q3':=hdn (Q3.out.kept h10);clear Q1 Q2 Q3 z0 z1 z2 z3 z4 z5 z6 z7)
  | (at_make;refine wpList_make_own _ rfl _ (.tmp 53) 34 rfl w.heap.size 2 i0 (.int .i64 0) 1 Tryz.underlying34 hi2 hz0 hz1 .i64 .i64 _ wd rfl rfl rfl (by rw[hz2];omega) (by unfold maxLen;omega) hb10.size ?_;intro W11 hown hgrow;have h11:Below W10.heap.size W10 W11:=(Below.refl _ _).grown hgrow (Nat.le_refl _) (fun k h=>by cases h);have hb11:=bTn hb10 h11;have Q1:=hdn (Q1'.out.kept h11);have Q2:=hdn (Q2'.out.kept h11);have Q3:=hdn (Q3'.out.kept h11);obtain⟨a0,a1,a2,a3,a4,a5,a6,a7,a8,a9,a10,a11⟩:=Q1.out.c12;have gl:=(hown.lt _ rfl).2;have gB:w.heap.size+1+1<W10.heap.size:=Q3'.out.lt;clear Q1' Q2' Q3' hgrow h11)
  | (go_at_call 59;refine (ke _ hb11).mono ?_;rintro e W12 ⟨⟨ax,cx,rfl,rx,fx⟩,h12⟩;clear ke;have hb12:=bTn hb11 h12;have Q1':=hdn (Q1.out.kept h12);have Q2':=hdn (Q2.out.kept h12);have Q3':=hdn (Q3.out.kept h12);have hown':=own_below hown h12;have b9:=Q1'.out.cell 9 (v:=.slice (some x0) M.m.ln L.c) rfl;clear Q1 Q2 Q3 hown h12 a0 a1 a2 a3 a4 a5 a6 a7 a8 a9 a10 a11))
 have fx':∀ y,ax=some y→y.block≠W10.heap.size:=fun y hy=>by have:=fx y hy;omega
 obtain⟨g,eg⟩:∃ g,W10.heap.size=g:=⟨_,rfl⟩
 rw[eg] at hown' fx' gl gB ⊢
 clear eg
 go_wp2
 go_loopw [13,14,61] (fun vr vx i wr=>∃ k:Nat,k≤M.m.ln∧i=.int .i64 k∧Below w.heap.size w wr∧Blk 27 wr w.heap.size #[.int .i64 M.d,.int .i64 M.h,.int .i64 M.l,.int .i64 M.v,.int .i64 M.u,.int .i64 M.x,.int .i64 M.t,.int .i64 M.n,.slice E.a E.n E.c,.slice (some x0) M.m.ln L.c,.slice N.a N.n N.c,.slice O.a O.n O.c]∧Blk 30 wr (w.heap.size+1) #[.int .i64 M.r,.int .i64 M.s,.slice La.a La.n La.c]∧Blk 23 wr (w.heap.size+1+1) #[.int .i64 M.d,.int .i64 M.h,.int .i64 M.l,.int .i64 M.v,.int .i64 M.u,.int .i64 M.x,.int .i64 M.t,.int .i64 M.n]∧∃ (m:Nat) (ax:Option Addr) (cx:Nat),m=2*k*M.D∧vr=.slice (some ⟨g,0,none⟩) m wd∧wr.ownsRow w.heap.size 2 1 (.slice (some ⟨g,0,none⟩) m wd) m ((stR M p P n tok k).map (Value.int .i64))∧vx=.slice ax M.D cx∧Reads .i64 wr ax M.D (stX M p P n tok k)∧∀ y,ax=some y→y.block≠g) (fun _ _ i _=>M.m.ln-(intOf i).toNat)
 case atStart=>exact⟨0,Nat.zero_le _,rfl,hb12,Q1'.out,Q2'.out,Q3'.out,0,ax,cx,by omega,rfl,hown',rfl,rx,fx'⟩
 case round =>
  clear hb9 hb10 hb11 hb12 Q1' Q2' Q3' hown' rx fx fx' b9 gl
  obtain⟨k,hk,rfl,hbr,qm,qa_,qc,m,ax,cx,em,rfl,ho,rfl,rx,fx⟩:=hrel
  by_cases hlt:k<M.m.ln
  ·have Q1:=hdn qm
   have Q2:=hdn qa_
   have Q3:=hdn qc
   obtain⟨c0,c1,c2,c3,c4,c5,c6,c7,c8,c9,c10,c11⟩:=qm.c12
   obtain⟨s0,s1,s2⟩:=qa_.c3
   have gl:=(ho.lt g rfl).2
   have gge:=(ho.lt g rfl).1
   have hmul:(k+1)*M.D≤M.m.ln*M.D:=Nat.mul_le_mul_right _ (by omega)
   rw[Nat.succ_mul] at hmul
   have e1:m=2*(k*M.D):=by rw[em,Nat.mul_assoc]
   have e2:wd=2*(M.m.ln*M.D):=by rw[←eWd,Nat.mul_assoc]
   obtain⟨f2,ef2⟩:∃ f2,m+M.D=f2:=⟨_,rfl⟩
   have w1:∀ r,r<n→m+M.D≤(P r).length:=fun r hr=>by rw[hW r hr];omega
   have w2:∀ r,r<n→f2+M.D≤(P r).length:=fun r hr=>by rw[hW r hr];omega
   have iq:(m:Int)+M.d=(f2:Int):=by rw[F.eD];omega
   have hfit:m+M.D+M.D≤wd:=by omega
   have em':2*k*M.D=m:=em.symm
   have esR:stR M p P n tok (k+1)=stR M p P n tok k++(kL M p k (stX M p P n tok k)++vL M k (stX M p P n tok k)):=rfl
   have esX:stX M p P n tok (k+1)=wkL M k (stX M p P n tok k) (oL M p P n k (stX M p P n tok k)):=rfl
   have enm:2*(k+1)*M.D=m+M.D+M.D:=by rw[em,show 2*(k+1)=2*k+2 by omega,Nat.add_mul];omega
   obtain⟨X,eX⟩:∃ X,stX M p P n tok k=X:=⟨_,rfl⟩
   obtain⟨S0,eS0⟩:∃ S0,stR M p P n tok k=S0:=⟨_,rfl⟩
   rw[eX] at rx esR esX
   rw[eS0] at ho esR
   have hkl:=kL_length F p k X
   have hvl:=vL_length F hlt X
   have fk:(partL P n m M.D (kL M p k X) n).length=M.D:=by rw[partL_last];exact hkl
   have fv:(partL P n f2 M.D (vL M k X) n).length=M.D:=by rw[partL_last];exact hvl
   have ek:keysL M p P n k X=partL P n m M.D (kL M p k X):=by unfold keysL;rw[em']
   have evv:valsL M P n k X=partL P n f2 M.D (vL M k X):=by unfold valsL;rw[em',ef2]
   have lkk:∀ r,r<n+1→(partL P n m M.D (kL M p k X) r).length=M.D:=fun r hr=>partL_length P n m M.D _ w1 hkl hr
   have lvv:∀ r,r<n+1→(partL P n f2 M.D (vL M k X) r).length=M.D:=fun r hr=>partL_length P n f2 M.D _ w2 hvl hr
   have k5:∀ (W:World) (u1:Option Addr) (c1:Nat) (A1:Nat→Option Addr) (C1:Nat→Nat) (u2:Option Addr) (c2:Nat) (A2:Nat→Option Addr) (C2:Nat→Nat) (a:Option Addr) (c:Nat),Grid W u1 (n+1) A1 C1 (partL P n m M.D (kL M p k X))→(∀ r,r<n+1→M.D≤C1 r)→Grid W u2 (n+1) A2 C2 (partL P n f2 M.D (vL M k X))→(∀ r,r<n+1→M.D≤C2 r)→Reads .i64 W a M.D (qL M p k X)→M.D≤c →
     Calls Tryz.prog 62 #[.slice a M.D c,.slice u1 (n+1) c1,.slice u2 (n+1) c2,.int .i64 M.h] W fun e w'=>(∃ a c,e=.returned (.tuple #[.slice a M.D c,.int .i64 0])∧Reads .i64 w' a M.D (oL M p P n k X)∧M.D≤c∧∀ x,a=some x→W.heap.size≤x.block)∧Below W.heap.size W w' :=
    fun W u1 c1 A1 C1 u2 c2 A2 C2 a c g1 hc1 g2 hc2 hq hc=>by
     have:=md_all F n (by omega) W a c _ hq hc u1 c1 A1 C1 _ g1 (fun r hr=>by rw[lkk r hr];exact hc1 r hr) u2 c2 A2 C2 _ g2 (fun r hr=>by rw[lvv r hr];exact hc2 r hr) (fun r hr=>⟨lkk r hr,lvv r hr⟩)
     unfold oL
     rw[ek,evv]
     exact this
   have cap1:∀ c10,M.D≤c10→∀ r,r<n+1→M.D≤(fun r=>if r=n then c10 else (fun _=>M.D) r) r:=fun c10 h r hr=>by
    dsimp only
    split
    ·exact h
    ·exact Nat.le_refl _
   have lo:∀ f,(∀ r,r<n→f+M.D≤(P r).length)→∀ r,r<n→∀ x,cutA A f r=some x→x.block<w.heap.size:=fun f hf r hr x hx=>by
    have q:=hP.row r hr
    obtain⟨y,ey⟩:=q.some_ (by have:=hf r hr;omega)
    unfold cutA at hx
    rw[ey] at hx
    obtain rfl:=Option.some.inj hx
    have:=World.block_lt_of_cell? w _ (q.cell y ey 0 (by have:=hf r hr;omega))
    simp only[Addr.add] at this ⊢
    split<;>split at this<;>exact this
   have lo1':=lo m w1
   have lo2':=lo f2 w2
   have Hs:Hid (stR M p P n tok (k+1)=S0++(kL M p k X++vL M k X)∧stX M p P n tok (k+1)=wkL M k X (oL M p P n k X)∧2*(k+1)*M.D=m+M.D+M.D):=⟨esR,esX,enm⟩
   clear eX eS0 esR esX enm lo em em' e1 e2 hmul qm qa_ qc ek evv lkk lvv
   have HO:=hdn ho
   clear ho
   go_wp2_with (go_at_call 60;refine (kl _ hbr k hlt _ _ _ rx).mono ?_;rintro e W13 ⟨⟨qa,cq,ka,ck,va,cv,rfl,⟨rq,lq⟩,⟨rk,lk⟩,rv,lv,fv13⟩,h13⟩;have hb13:=bTn hbr h13;have Q1':=hdn (Q1.out.kept h13);have Q2':=hdn (Q2.out.kept h13);have Q3':=hdn (Q3.out.kept h13);clear Q1 Q2 Q3;have Q1:=Q1';have Q2:=Q2';have Q3:=Q3';clear Q1' Q2' Q3';have rx13:=rx.below h13;have HO13:=hdn (own_below HO.out h13);have s13:=h13.size;clear HO h13 rx c0 c1 c2 c3 c4 c5 c6 c7 c8 c9 c10 c11 s0 s1 s2 kl)
   have lo1:∀ r,r<n→∀ x,cutA A m r=some x→x.block<W13.heap.size:=fun r hr x hx=>Nat.lt_of_lt_of_le (lo1' r hr x hx) hb13.size
   have lo2:∀ r,r<n→∀ x,cutA A f2 r=some x→x.block<W13.heap.size:=fun r hr x hx=>Nat.lt_of_lt_of_le (lo2' r hr x hx) hb13.size
   clear lo1' lo2'
   refine sc_region (w.heap.size+1+1) n pc m f2 W13.heap.size pa M.d (cutA A m) (cutA A f2) (fun _=>M.D) (partL P n m M.D (kL M p k X)) (partL P n f2 M.D (vL M k X)) (fun W=>Below W13.heap.size W13 W) (by kernel_rfl) rfl ⟨_,rfl,rfl,rfl,rfl,by kernel_rfl⟩ ⟨_,rfl,rfl,rfl,rfl,by kernel_rfl⟩ ⟨_,rfl,rfl,rfl,rfl,by kernel_rfl⟩ ⟨_,rfl,rfl,rfl,rfl,by kernel_rfl⟩ ⟨_,rfl,rfl,rfl,rfl,by kernel_rfl⟩ ⟨_,rfl,rfl,rfl,rfl,by kernel_rfl⟩ ⟨_,rfl,rfl,rfl,rfl,by kernel_rfl⟩ ⟨_,rfl,rfl,rfl,rfl,by kernel_rfl⟩ ⟨_,rfl,rfl,rfl,rfl,by kernel_rfl⟩ ⟨_,rfl,rfl,rfl,rfl,by kernel_rfl⟩ ⟨_,rfl,rfl,rfl,rfl,by kernel_rfl⟩ ⟨_,rfl,rfl,rfl,rfl,by kernel_rfl⟩ ⟨_,rfl,rfl,rfl,rfl,by kernel_rfl⟩ ⟨_,rfl,rfl,rfl,rfl,by kernel_rfl⟩ ⟨_,rfl,rfl,rfl,rfl,by kernel_rfl⟩ (Below.refl _ _).drew (run_field23 _ 0 (by omega)) (fun W hb=>run_load3 ((Q3.out.kept hb).cell 0 (v:=.int .i64 M.d) rfl)) (fun W hb hg=>by have kc:=cutEach_md pa n pc A C P m M.D (kL M p k X) W ((hP.below hb13).below hb) hC hD0 w1 (by omega);rw[hg,←F.eD] at kc;exact kc.mono fun e w' ⟨q1,q2,q3⟩=>⟨q1,q2,(by rw[hg];exact q3),bTn hb (by rw[hg];exact q3)⟩) (run_field23 _ 0 (by omega)) (fun W hb=>run_load3 ((Q3.out.kept hb).cell 0 (v:=.int .i64 M.d) rfl)) (mdrun_add3 _ _ _ iq (by omega) (by omega)) (run_field23 _ 0 (by omega)) (fun W hb=>run_load3 ((Q3.out.kept hb).cell 0 (v:=.int .i64 M.d) rfl)) (fun W hb hg=>by have kc:=cutEach_md pa n pc A C P f2 M.D (vL M k X) W ((hP.below hb13).below hb) hC hD0 w2 (by omega);rw[←F.eD] at kc;exact kc.mono fun e w' ⟨q1,q2,q3⟩=>⟨_,q1,hg,⟨⟨q2.own.1,wider (Nat.le_of_lt hg) q2.own.2⟩,q2.row,q2.apart⟩,q3,bTn hb q3⟩) rfl rfl rfl rfl (Nat.le_of_ble_eq_true rfl) ?_
   intro a W9 hs hd hkp hS9 hval
   obtain⟨e20,f20⟩:=hval 13 20 (by decide) rfl
   obtain⟨b2,e21,z21,f21⟩:=hval 14 21 (by decide) rfl
   have ep:=fPu [76,77,78,79,80,81,82,83,84,85,86,87,88,20,21] hs hd (fun s h=>hkp s (fun i hi e=>h (by
    rcases (show i=0∨i=1∨i=2∨i=3∨i=4∨i=5∨i=6∨i=7∨i=8∨i=9∨i=10∨i=11∨i=12∨i=13∨i=14 by omega) with rfl|rfl|rfl|rfl|rfl|rfl|rfl|rfl|rfl|rfl|rfl|rfl|rfl|rfl|rfl<;>(simp only[scD,Option.some.injEq] at e;subst e;simp))))
   simp only[List.foldl] at ep
   rw[e20] at ep
   rw[e21] at ep
   have H9:=hdn hS9
   clear hs hd hkp hval hS9 e20 e21
   generalize a.tmps.getD 76 undef=g76,a.tmps.getD 77 undef=g77,a.tmps.getD 78 undef=g78,a.tmps.getD 79 undef=g79,a.tmps.getD 80 undef=g80,a.tmps.getD 81 undef=g81,a.tmps.getD 82 undef=g82,a.tmps.getD 83 undef=g83,a.tmps.getD 84 undef=g84,a.tmps.getD 85 undef=g85,a.tmps.getD 86 undef=g86,a.tmps.getD 87 undef=g87,a.tmps.getD 88 undef=g88 at ep
   simp only[Act.put,List.setIfInBounds_toArray,List.set_cons_succ,List.set_cons_zero] at ep
   subst ep
   go_wp2
   refine sa_region (w.heap.size+1+1) n W13.heap.size b2 M.D cq ck cv qa ka va M.h (cutA A m) (cutA A f2) (fun _=>M.D) (partL P n m M.D (kL M p k X)) (partL P n f2 M.D (vL M k X)) (oL M p P n k X) W13 (by kernel_rfl) rfl ⟨_,rfl,rfl,rfl,rfl,by kernel_rfl⟩ ⟨_,rfl,rfl,rfl,rfl,by kernel_rfl⟩ ⟨_,rfl,rfl,rfl,rfl,by kernel_rfl⟩ ⟨_,rfl,rfl,rfl,rfl,by kernel_rfl⟩ ⟨_,rfl,rfl,rfl,rfl,by kernel_rfl⟩ ⟨_,rfl,rfl,rfl,rfl,by kernel_rfl⟩ ⟨_,rfl,rfl,rfl,rfl,by kernel_rfl⟩ ⟨_,rfl,rfl,rfl,rfl,by kernel_rfl⟩ ⟨_,rfl,rfl,rfl,rfl,by kernel_rfl⟩ ⟨_,rfl,rfl,rfl,rfl,by kernel_rfl⟩ ⟨_,rfl,rfl,rfl,rfl,by kernel_rfl⟩ ⟨_,rfl,rfl,rfl,rfl,by kernel_rfl⟩ ⟨_,rfl,rfl,rfl,rfl,by kernel_rfl⟩ ⟨_,rfl,rfl,rfl,rfl,by kernel_rfl⟩ ⟨_,rfl,rfl,rfl,rfl,by kernel_rfl⟩ ⟨_,rfl,rfl,rfl,rfl,by kernel_rfl⟩ rfl rfl rfl rfl rfl rfl rfl (by omega) (by omega) fk fv hD0 (by rw[partL_last];exact rk) (by rw[partL_last];exact rv) lo1 lo2 (fun o h=>by obtain rfl:=Option.some.inj h;rfl) (fun o h=>by obtain rfl:=Option.some.inj h;rfl) ⟨H9.out.drew,(f20.own.lt _ rfl).2,(f21.own.lt _ rfl).2,fun _=>f20.drew,fun _=>f21.drew⟩ (run_field23 _ 1 (by omega)) (fun W hb=>run_load3 ((Q3.out.kept hb).cell 1 (v:=.int .i64 M.h) rfl)) ?_ (Nat.le_of_ble_eq_true rfl) ?_
   ·intro W u1 k1 u2 k2 hb g1 g2
    exact (k5 W u1 k1 _ _ u2 k2 _ _ qa cq g1 (cap1 ck lk) g2 (cap1 cv lv) (rq.below hb) lq).mono fun e w' ⟨⟨a,c,q1,q2,q3,q4⟩,q5⟩=>⟨a,c,q1,q2,q3,q4,q5⟩
   intro a W15 oa oc hs hd hkp e22 f22 z22 fr22 hB15
   have ep:=fPu [89,90,91,92,93,94,95,96,97,98,99,100,101,102,103,22] hs hd (fun s h=>hkp s (fun j hj e=>h (by
    rcases (show j=0∨j=1∨j=2∨j=3∨j=4∨j=5∨j=6∨j=7∨j=8∨j=9∨j=10∨j=11∨j=12∨j=13∨j=14∨j=15 by omega) with rfl|rfl|rfl|rfl|rfl|rfl|rfl|rfl|rfl|rfl|rfl|rfl|rfl|rfl|rfl|rfl<;>(simp only[saD,Option.some.injEq] at e;subst e;simp))))
   simp only[List.foldl] at ep
   rw[e22] at ep
   clear hs hd hkp e22 f20 f21 z21
   generalize a.tmps.getD 89 undef=h89 at ep
   generalize a.tmps.getD 90 undef=h90 at ep
   generalize a.tmps.getD 91 undef=h91 at ep
   generalize a.tmps.getD 92 undef=h92 at ep
   generalize a.tmps.getD 93 undef=h93 at ep
   generalize a.tmps.getD 94 undef=h94 at ep
   generalize a.tmps.getD 95 undef=h95 at ep
   generalize a.tmps.getD 96 undef=h96 at ep
   generalize a.tmps.getD 97 undef=h97 at ep
   generalize a.tmps.getD 98 undef=h98 at ep
   generalize a.tmps.getD 99 undef=h99 at ep
   generalize a.tmps.getD 100 undef=h100 at ep
   generalize a.tmps.getD 101 undef=h101 at ep
   generalize a.tmps.getD 102 undef=h102 at ep
   generalize a.tmps.getD 103 undef=h103 at ep
   simp only[Act.put,List.setIfInBounds_toArray,List.set_cons_succ,List.set_cons_zero] at ep
   subst ep
   have hb15:Below w.heap.size w W15:=bTn hb13 hB15
   have Q1':=hdn (Q1.out.kept hB15)
   have Q2':=hdn (Q2.out.kept hB15)
   have Q3':=hdn (Q3.out.kept hB15)
   have rx15:=rx13.below hB15
   have rk15:=rk.below hB15
   have rv15:=rv.below hB15
   have ho15:=own_below HO13.out hB15
   obtain⟨ya,rfl⟩:=rk15.some_ hD0
   obtain⟨yv,rfl⟩:=rv15.some_ hD0
   have nv:yv.block≠g:=by have:=fv13 yv rfl;omega
   have no_:∀ y,oa=some y→y.block≠g:=fun y hy=>by have:=fr22 y hy;omega
   have hlk:=rk15.len
   have hlv:=rv15.len
   clear Q1 Q2 Q3 rx13 rk rv rq HO13 hB15 H9 fv13 fr22 lo1 lo2 k5 cap1 ef2 iq fk fv w1 w2
   go_wp2_with (first
    | (at_builtin;refine wpList_append_fits _ rfl (.tmp 104) (.tmp 105) 34 rfl w.heap.size 2 i0 1 Tryz.underlying34 hi2 hz1 g m wd _ rfl ho15 ya M.D ck ((kL M p k X).map (Value.int .i64)) rfl (by rw[List.length_map,hlk,Nat.mul_one]) (map_cells rk15) map_one (by omega) ?_;intro W16 ho16 hg16;have hb16:=below_append hb15 ho15 hg16;have Q1:=hdn (Q1'.out.grown hg16 (by omega));have Q2:=hdn (Q2'.out.grown hg16 (by omega));have Q3:=hdn (Q3'.out.grown hg16 (by omega));have rx16:=rx15.grown hg16 (fun _ y hy z hz=>by obtain rfl:=Option.some.inj hz;exact fx y hy);have rv16:=rv15.grown hg16 (fun _ y hy z hz=>by obtain rfl:=Option.some.inj hz;obtain rfl:=Option.some.inj hy;exact nv);have ro16:=f22.grown hg16 (fun _ y hy z hz=>by obtain rfl:=Option.some.inj hz;exact no_ y hy);clear Q1' Q2' Q3' rx15 rv15 rk15 f22 ho15 hg16 hb15)
    | (at_builtin;refine wpList_append_fits _ rfl (.tmp 106) (.tmp 107) 34 rfl w.heap.size 2 i0 1 Tryz.underlying34 hi2 hz1 g (m+M.D) wd _ rfl ho16 yv M.D cv ((vL M k X).map (Value.int .i64)) rfl (by rw[List.length_map,hlv,Nat.mul_one]) (map_cells rv16) map_one (by omega) ?_;intro W17 ho17 hg17;have hb17:=below_append hb16 ho16 hg17;have Q1':=hdn (Q1.out.grown hg17 (by omega));have Q2':=hdn (Q2.out.grown hg17 (by omega));have Q3':=hdn (Q3.out.grown hg17 (by omega));have rx17:=rx16.grown hg17 (fun _ y hy z hz=>by obtain rfl:=Option.some.inj hz;exact fx y hy);have ro17:=ro16.grown hg17 (fun _ y hy z hz=>by obtain rfl:=Option.some.inj hz;exact no_ y hy);have gl17:=(ho17.lt g rfl).2;obtain⟨c0,c1,c2,c3,c4,c5,c6,c7,c8,c9,c10,c11⟩:=Q1'.out.c12;have HO17:=hdn ho17;clear Q1 Q2 Q3 rx16 rv16 ro16 ho16 hg17 hb16 ho17)
    | (go_at_call 63;refine (kw _ hb17 k hlt _ _ _ _ _ _ rx17 ro17).mono ?_;rintro e W18 ⟨⟨a18,c18,rfl,r18,f18⟩,h18⟩;have hb18:=bTn hb17 h18;have Q1:=hdn (Q1'.out.kept h18);have Q2:=hdn (Q2'.out.kept h18);have Q3:=hdn (Q3'.out.kept h18);have ho18:=own_below HO17.out h18;have f18':∀ y,a18=some y→y.block≠g:=fun y hy=>(by have:=f18 y hy;omega);have R:Hid (Below w.heap.size w W18∧W18.ownsRow w.heap.size 2 1 (.slice (some ⟨g,0,none⟩) (m+M.D+M.D) wd) (m+M.D+M.D) ((S0++(kL M p k X++vL M k X)).map (Value.int .i64))∧Reads .i64 W18 a18 M.D (wkL M k X (oL M p P n k X))∧(∀ y,a18=some y→y.block≠g)):=⟨hb18,by rw[List.map_append,List.map_append,←List.append_assoc];exact ho18,r18,f18'⟩;clear ho18 h18 f18 f18' r18 rx17 ro17 Q1' Q2' Q3' HO17 c0 c1 c2 c3 c4 c5 c6 c7 c8 c9 c10 c11 hb18 hb17 kw))
   go_roundw
   case rel=>exact⟨k+1,by omega,by go_num,R.out.1,Q1.out,Q2.out,Q3.out,_,_,_,Hs.out.2.2.symm,rfl,by rw[Hs.out.1];exact R.out.2.1,rfl,by rw[Hs.out.2.1];exact R.out.2.2.1,R.out.2.2.2⟩
   case measure=>simp[intOf];omega
  ·have e:k=M.m.ln:=by omega
   subst e
   have c10:=qm.cell 10 (v:=.slice N.a N.n N.c) rfl
   have ewm:m=wd:=by rw[em,eWd]
   clear em
   subst ewm
   have lr:=stR_length F p P n tok M.m.ln (Nat.le_refl _)
   rw[eWd] at lr
   have gcap:=(ho.lt g rfl)
   have rr:=own_reads_at (zs:=stR M p P n tok M.m.ln) ho lr (fun z hz=>(in_stR M p P n tok M.m.ln z hz).wf) (fun j hj=>map_get _ j (by rw[lr];exact hj))
   have rx':=(show Hid _ from rx)
   clear ho qm qa_ qc eWd
   go_wp2_with (first
    | (go_at_call 64;refine (kn _ hbr _ _ _ rx).mono ?_;rintro e W20 ⟨⟨a20,c20,rfl,r20,f20⟩,h20⟩;clear kn;have fo:∀ x,a20=some x→w.heap.size≤x.block:=fun x hx=>Nat.le_trans hbr.size (f20 x hx);have rr20:=rr.below h20;have hb20:=bTn hbr h20;clear h20 rr rx rx')
    | (go_at_call 48;refine (mdmust_yes _ _ _ _).mono ?_;rintro e w' ⟨rfl,hq⟩;obtain rfl:=hq.symm;clear hq))
   refine bodyPost_ret (v:=.tuple #[.slice (some ⟨g,0,none⟩) m m,.slice a20 M.D c20]) ?_ rfl ⟨⟨_,_,_,_,rfl,rr20,Nat.le_refl _,r20,fun x hx=>Nat.le_trans gcap.1 (Nat.le_of_eq (congrArg Addr.block (Option.some.inj hx))),fo⟩,hb20⟩
   simp[results,Tryz.results30,go_sem]
end
section
theorem step_place1 (M:Md)(E L N O:SL)(La:SL)(w:World)(pa:Option Addr)(n pc:Nat)(p tok:Int)(hp:p<0) :
  Calls Tryz.prog 30 #[.agg #[.int .i64 M.d,.int .i64 M.h,.int .i64 M.l,.int .i64 M.v,.int .i64 M.u,.int .i64 M.x,.int .i64 M.t,.int .i64 M.n,.slice E.a E.n E.c,.slice L.a L.n L.c,.slice N.a N.n N.c,.slice O.a O.n O.c],.agg #[.int .i64 M.r,.int .i64 M.s,.slice La.a La.n La.c],.slice pa n pc,.int .i64 p,.int .i64 tok] w fun e w'=>e=.panicked [{ v:=.iface 35 (.int .i64 20),recovered:=false }]∧Below w.heap.size w w':=by
 have hb0:=bNw (bNw (bNw (Below.refl w.heap.size w) (.cells #[.int .i64 M.d,.int .i64 M.h,.int .i64 M.l,.int .i64 M.v,.int .i64 M.u,.int .i64 M.x,.int .i64 M.t,.int .i64 M.n,.slice E.a E.n E.c,.slice L.a L.n L.c,.slice N.a N.n N.c,.slice O.a O.n O.c] 27)) (.cells #[.int .i64 M.r,.int .i64 M.s,.slice La.a La.n La.c] 30)) (.cells #[.int .i64 M.d,.int .i64 M.h,.int .i64 M.l,.int .i64 M.v,.int .i64 M.u,.int .i64 M.x,.int .i64 M.t,.int .i64 M.n] 23)
 have q1:Blk 27 (((w.alloc (.cells #[.int .i64 M.d,.int .i64 M.h,.int .i64 M.l,.int .i64 M.v,.int .i64 M.u,.int .i64 M.x,.int .i64 M.t,.int .i64 M.n,.slice E.a E.n E.c,.slice L.a L.n L.c,.slice N.a N.n N.c,.slice O.a O.n O.c] 27)).alloc (.cells #[.int .i64 M.r,.int .i64 M.s,.slice La.a La.n La.c] 30)).alloc (.cells #[.int .i64 M.d,.int .i64 M.h,.int .i64 M.l,.int .i64 M.v,.int .i64 M.u,.int .i64 M.x,.int .i64 M.t,.int .i64 M.n] 23)) w.heap.size #[.int .i64 M.d,.int .i64 M.h,.int .i64 M.l,.int .i64 M.v,.int .i64 M.u,.int .i64 M.x,.int .i64 M.t,.int .i64 M.n,.slice E.a E.n E.c,.slice L.a L.n L.c,.slice N.a N.n N.c,.slice O.a O.n O.c]:=(Blk.new 27 w _).kept (bNw (bNw (Below.refl _ _) _) _)
 have q2:Blk 30 (((w.alloc (.cells #[.int .i64 M.d,.int .i64 M.h,.int .i64 M.l,.int .i64 M.v,.int .i64 M.u,.int .i64 M.x,.int .i64 M.t,.int .i64 M.n,.slice E.a E.n E.c,.slice L.a L.n L.c,.slice N.a N.n N.c,.slice O.a O.n O.c] 27)).alloc (.cells #[.int .i64 M.r,.int .i64 M.s,.slice La.a La.n La.c] 30)).alloc (.cells #[.int .i64 M.d,.int .i64 M.h,.int .i64 M.l,.int .i64 M.v,.int .i64 M.u,.int .i64 M.x,.int .i64 M.t,.int .i64 M.n] 23)) (w.heap.size+1) #[.int .i64 M.r,.int .i64 M.s,.slice La.a La.n La.c]:=(Blk.new_at 30 (w.alloc _) _ _ (by simp)).kept (bNw (Below.refl _ _) _)
 have q3:Blk 23 (((w.alloc (.cells #[.int .i64 M.d,.int .i64 M.h,.int .i64 M.l,.int .i64 M.v,.int .i64 M.u,.int .i64 M.x,.int .i64 M.t,.int .i64 M.n,.slice E.a E.n E.c,.slice L.a L.n L.c,.slice N.a N.n N.c,.slice O.a O.n O.c] 27)).alloc (.cells #[.int .i64 M.r,.int .i64 M.s,.slice La.a La.n La.c] 30)).alloc (.cells #[.int .i64 M.d,.int .i64 M.h,.int .i64 M.l,.int .i64 M.v,.int .i64 M.u,.int .i64 M.x,.int .i64 M.t,.int .i64 M.n] 23)) (w.heap.size+1+1) #[.int .i64 M.d,.int .i64 M.h,.int .i64 M.l,.int .i64 M.v,.int .i64 M.u,.int .i64 M.x,.int .i64 M.t,.int .i64 M.n]:=Blk.new_at 23 ((w.alloc _).alloc _) _ _ (by simp)
 have d1':decide ((0:Int)≤p)=false:=decide_eq_false (by omega)
 clear q1 q2
 have ky:=mdneed_yes 20
 have Q3:=hdn q3
 obtain⟨z0,z1,z2,z3,z4,z5,z6,z7⟩:=q3.c8
 clear q3
 go_enter Tryz.func30,Tryz.ntmps30
 go_wp2_with (first|(go_at_call 56;refine (mdneed_no 20 _).mono ?_;rintro e w' ⟨rfl,hq⟩;obtain rfl:=hq.symm;clear hq))
 exact⟨rfl,rfl,hb0⟩
theorem step_place2 (M:Md)(E L N O:SL)(La:SL)(w:World)(pa:Option Addr)(n pc:Nat)(p tok:Int)(hp:24≤p) :
  Calls Tryz.prog 30 #[.agg #[.int .i64 M.d,.int .i64 M.h,.int .i64 M.l,.int .i64 M.v,.int .i64 M.u,.int .i64 M.x,.int .i64 M.t,.int .i64 M.n,.slice E.a E.n E.c,.slice L.a L.n L.c,.slice N.a N.n N.c,.slice O.a O.n O.c],.agg #[.int .i64 M.r,.int .i64 M.s,.slice La.a La.n La.c],.slice pa n pc,.int .i64 p,.int .i64 tok] w fun e w'=>e=.panicked [{ v:=.iface 35 (.int .i64 20),recovered:=false }]∧Below w.heap.size w w':=by
 have hb0:=bNw (bNw (bNw (Below.refl w.heap.size w) (.cells #[.int .i64 M.d,.int .i64 M.h,.int .i64 M.l,.int .i64 M.v,.int .i64 M.u,.int .i64 M.x,.int .i64 M.t,.int .i64 M.n,.slice E.a E.n E.c,.slice L.a L.n L.c,.slice N.a N.n N.c,.slice O.a O.n O.c] 27)) (.cells #[.int .i64 M.r,.int .i64 M.s,.slice La.a La.n La.c] 30)) (.cells #[.int .i64 M.d,.int .i64 M.h,.int .i64 M.l,.int .i64 M.v,.int .i64 M.u,.int .i64 M.x,.int .i64 M.t,.int .i64 M.n] 23)
 have q1:Blk 27 (((w.alloc (.cells #[.int .i64 M.d,.int .i64 M.h,.int .i64 M.l,.int .i64 M.v,.int .i64 M.u,.int .i64 M.x,.int .i64 M.t,.int .i64 M.n,.slice E.a E.n E.c,.slice L.a L.n L.c,.slice N.a N.n N.c,.slice O.a O.n O.c] 27)).alloc (.cells #[.int .i64 M.r,.int .i64 M.s,.slice La.a La.n La.c] 30)).alloc (.cells #[.int .i64 M.d,.int .i64 M.h,.int .i64 M.l,.int .i64 M.v,.int .i64 M.u,.int .i64 M.x,.int .i64 M.t,.int .i64 M.n] 23)) w.heap.size #[.int .i64 M.d,.int .i64 M.h,.int .i64 M.l,.int .i64 M.v,.int .i64 M.u,.int .i64 M.x,.int .i64 M.t,.int .i64 M.n,.slice E.a E.n E.c,.slice L.a L.n L.c,.slice N.a N.n N.c,.slice O.a O.n O.c]:=(Blk.new 27 w _).kept (bNw (bNw (Below.refl _ _) _) _)
 have q2:Blk 30 (((w.alloc (.cells #[.int .i64 M.d,.int .i64 M.h,.int .i64 M.l,.int .i64 M.v,.int .i64 M.u,.int .i64 M.x,.int .i64 M.t,.int .i64 M.n,.slice E.a E.n E.c,.slice L.a L.n L.c,.slice N.a N.n N.c,.slice O.a O.n O.c] 27)).alloc (.cells #[.int .i64 M.r,.int .i64 M.s,.slice La.a La.n La.c] 30)).alloc (.cells #[.int .i64 M.d,.int .i64 M.h,.int .i64 M.l,.int .i64 M.v,.int .i64 M.u,.int .i64 M.x,.int .i64 M.t,.int .i64 M.n] 23)) (w.heap.size+1) #[.int .i64 M.r,.int .i64 M.s,.slice La.a La.n La.c]:=(Blk.new_at 30 (w.alloc _) _ _ (by simp)).kept (bNw (Below.refl _ _) _)
 have q3:Blk 23 (((w.alloc (.cells #[.int .i64 M.d,.int .i64 M.h,.int .i64 M.l,.int .i64 M.v,.int .i64 M.u,.int .i64 M.x,.int .i64 M.t,.int .i64 M.n,.slice E.a E.n E.c,.slice L.a L.n L.c,.slice N.a N.n N.c,.slice O.a O.n O.c] 27)).alloc (.cells #[.int .i64 M.r,.int .i64 M.s,.slice La.a La.n La.c] 30)).alloc (.cells #[.int .i64 M.d,.int .i64 M.h,.int .i64 M.l,.int .i64 M.v,.int .i64 M.u,.int .i64 M.x,.int .i64 M.t,.int .i64 M.n] 23)) (w.heap.size+1+1) #[.int .i64 M.d,.int .i64 M.h,.int .i64 M.l,.int .i64 M.v,.int .i64 M.u,.int .i64 M.x,.int .i64 M.t,.int .i64 M.n]:=Blk.new_at 23 ((w.alloc _).alloc _) _ _ (by simp)
 have d1':decide ((0:Int)≤p)=true:=decide_eq_true (by omega)
 have d2':decide (p<24)=false:=decide_eq_false (by omega)
 clear q1 q2
 have ky:=mdneed_yes 20
 have Q3:=hdn q3
 obtain⟨z0,z1,z2,z3,z4,z5,z6,z7⟩:=q3.c8
 clear q3
 go_enter Tryz.func30,Tryz.ntmps30
 go_wp2_with (first|(go_at_call 56;refine (mdneed_no 20 _).mono ?_;rintro e w' ⟨rfl,hq⟩;obtain rfl:=hq.symm;clear hq))
 exact⟨rfl,rfl,hb0⟩
theorem step_token1 (M:Md)(E L N O:SL)(La:SL)(w:World)(pa:Option Addr)(n pc:Nat)(p tok:Int)(hp:0≤p∧p<24)(ht:tok<0) :
  Calls Tryz.prog 30 #[.agg #[.int .i64 M.d,.int .i64 M.h,.int .i64 M.l,.int .i64 M.v,.int .i64 M.u,.int .i64 M.x,.int .i64 M.t,.int .i64 M.n,.slice E.a E.n E.c,.slice L.a L.n L.c,.slice N.a N.n N.c,.slice O.a O.n O.c],.agg #[.int .i64 M.r,.int .i64 M.s,.slice La.a La.n La.c],.slice pa n pc,.int .i64 p,.int .i64 tok] w fun e w'=>e=.panicked [{ v:=.iface 35 (.int .i64 20),recovered:=false }]∧Below w.heap.size w w':=by
 have hb0:=bNw (bNw (bNw (Below.refl w.heap.size w) (.cells #[.int .i64 M.d,.int .i64 M.h,.int .i64 M.l,.int .i64 M.v,.int .i64 M.u,.int .i64 M.x,.int .i64 M.t,.int .i64 M.n,.slice E.a E.n E.c,.slice L.a L.n L.c,.slice N.a N.n N.c,.slice O.a O.n O.c] 27)) (.cells #[.int .i64 M.r,.int .i64 M.s,.slice La.a La.n La.c] 30)) (.cells #[.int .i64 M.d,.int .i64 M.h,.int .i64 M.l,.int .i64 M.v,.int .i64 M.u,.int .i64 M.x,.int .i64 M.t,.int .i64 M.n] 23)
 have q1:Blk 27 (((w.alloc (.cells #[.int .i64 M.d,.int .i64 M.h,.int .i64 M.l,.int .i64 M.v,.int .i64 M.u,.int .i64 M.x,.int .i64 M.t,.int .i64 M.n,.slice E.a E.n E.c,.slice L.a L.n L.c,.slice N.a N.n N.c,.slice O.a O.n O.c] 27)).alloc (.cells #[.int .i64 M.r,.int .i64 M.s,.slice La.a La.n La.c] 30)).alloc (.cells #[.int .i64 M.d,.int .i64 M.h,.int .i64 M.l,.int .i64 M.v,.int .i64 M.u,.int .i64 M.x,.int .i64 M.t,.int .i64 M.n] 23)) w.heap.size #[.int .i64 M.d,.int .i64 M.h,.int .i64 M.l,.int .i64 M.v,.int .i64 M.u,.int .i64 M.x,.int .i64 M.t,.int .i64 M.n,.slice E.a E.n E.c,.slice L.a L.n L.c,.slice N.a N.n N.c,.slice O.a O.n O.c]:=(Blk.new 27 w _).kept (bNw (bNw (Below.refl _ _) _) _)
 have q2:Blk 30 (((w.alloc (.cells #[.int .i64 M.d,.int .i64 M.h,.int .i64 M.l,.int .i64 M.v,.int .i64 M.u,.int .i64 M.x,.int .i64 M.t,.int .i64 M.n,.slice E.a E.n E.c,.slice L.a L.n L.c,.slice N.a N.n N.c,.slice O.a O.n O.c] 27)).alloc (.cells #[.int .i64 M.r,.int .i64 M.s,.slice La.a La.n La.c] 30)).alloc (.cells #[.int .i64 M.d,.int .i64 M.h,.int .i64 M.l,.int .i64 M.v,.int .i64 M.u,.int .i64 M.x,.int .i64 M.t,.int .i64 M.n] 23)) (w.heap.size+1) #[.int .i64 M.r,.int .i64 M.s,.slice La.a La.n La.c]:=(Blk.new_at 30 (w.alloc _) _ _ (by simp)).kept (bNw (Below.refl _ _) _)
 have q3:Blk 23 (((w.alloc (.cells #[.int .i64 M.d,.int .i64 M.h,.int .i64 M.l,.int .i64 M.v,.int .i64 M.u,.int .i64 M.x,.int .i64 M.t,.int .i64 M.n,.slice E.a E.n E.c,.slice L.a L.n L.c,.slice N.a N.n N.c,.slice O.a O.n O.c] 27)).alloc (.cells #[.int .i64 M.r,.int .i64 M.s,.slice La.a La.n La.c] 30)).alloc (.cells #[.int .i64 M.d,.int .i64 M.h,.int .i64 M.l,.int .i64 M.v,.int .i64 M.u,.int .i64 M.x,.int .i64 M.t,.int .i64 M.n] 23)) (w.heap.size+1+1) #[.int .i64 M.d,.int .i64 M.h,.int .i64 M.l,.int .i64 M.v,.int .i64 M.u,.int .i64 M.x,.int .i64 M.t,.int .i64 M.n]:=Blk.new_at 23 ((w.alloc _).alloc _) _ _ (by simp)
 have d1':decide ((0:Int)≤p)=true:=decide_eq_true hp.1
 have d2':decide (p<24)=true:=decide_eq_true hp.2
 have d3':decide ((0:Int)≤tok)=false:=decide_eq_false (by omega)
 clear q1 q2
 have ky:=mdneed_yes 20
 have Q3:=hdn q3
 obtain⟨z0,z1,z2,z3,z4,z5,z6,z7⟩:=q3.c8
 clear q3
 go_enter Tryz.func30,Tryz.ntmps30
 go_wp2_with (first|(go_at_call 56;refine (ky _).mono ?_;rintro e w' ⟨rfl,hq⟩;obtain rfl:=hq.symm;clear hq ky)|(go_at_call 56;refine (mdneed_no 20 _).mono ?_;rintro e w' ⟨rfl,hq⟩;obtain rfl:=hq.symm;clear hq))
 exact⟨rfl,rfl,hb0⟩
theorem step_token2 (M:Md)(E L N O:SL)(La:SL)(w:World)(pa:Option Addr)(n pc:Nat)(p tok:Int)(hp:0≤p∧p<24)(ht:0≤tok∧M.v≤tok) :
  Calls Tryz.prog 30 #[.agg #[.int .i64 M.d,.int .i64 M.h,.int .i64 M.l,.int .i64 M.v,.int .i64 M.u,.int .i64 M.x,.int .i64 M.t,.int .i64 M.n,.slice E.a E.n E.c,.slice L.a L.n L.c,.slice N.a N.n N.c,.slice O.a O.n O.c],.agg #[.int .i64 M.r,.int .i64 M.s,.slice La.a La.n La.c],.slice pa n pc,.int .i64 p,.int .i64 tok] w fun e w'=>e=.panicked [{ v:=.iface 35 (.int .i64 20),recovered:=false }]∧Below w.heap.size w w':=by
 have hb0:=bNw (bNw (bNw (Below.refl w.heap.size w) (.cells #[.int .i64 M.d,.int .i64 M.h,.int .i64 M.l,.int .i64 M.v,.int .i64 M.u,.int .i64 M.x,.int .i64 M.t,.int .i64 M.n,.slice E.a E.n E.c,.slice L.a L.n L.c,.slice N.a N.n N.c,.slice O.a O.n O.c] 27)) (.cells #[.int .i64 M.r,.int .i64 M.s,.slice La.a La.n La.c] 30)) (.cells #[.int .i64 M.d,.int .i64 M.h,.int .i64 M.l,.int .i64 M.v,.int .i64 M.u,.int .i64 M.x,.int .i64 M.t,.int .i64 M.n] 23)
 have q1:Blk 27 (((w.alloc (.cells #[.int .i64 M.d,.int .i64 M.h,.int .i64 M.l,.int .i64 M.v,.int .i64 M.u,.int .i64 M.x,.int .i64 M.t,.int .i64 M.n,.slice E.a E.n E.c,.slice L.a L.n L.c,.slice N.a N.n N.c,.slice O.a O.n O.c] 27)).alloc (.cells #[.int .i64 M.r,.int .i64 M.s,.slice La.a La.n La.c] 30)).alloc (.cells #[.int .i64 M.d,.int .i64 M.h,.int .i64 M.l,.int .i64 M.v,.int .i64 M.u,.int .i64 M.x,.int .i64 M.t,.int .i64 M.n] 23)) w.heap.size #[.int .i64 M.d,.int .i64 M.h,.int .i64 M.l,.int .i64 M.v,.int .i64 M.u,.int .i64 M.x,.int .i64 M.t,.int .i64 M.n,.slice E.a E.n E.c,.slice L.a L.n L.c,.slice N.a N.n N.c,.slice O.a O.n O.c]:=(Blk.new 27 w _).kept (bNw (bNw (Below.refl _ _) _) _)
 have q2:Blk 30 (((w.alloc (.cells #[.int .i64 M.d,.int .i64 M.h,.int .i64 M.l,.int .i64 M.v,.int .i64 M.u,.int .i64 M.x,.int .i64 M.t,.int .i64 M.n,.slice E.a E.n E.c,.slice L.a L.n L.c,.slice N.a N.n N.c,.slice O.a O.n O.c] 27)).alloc (.cells #[.int .i64 M.r,.int .i64 M.s,.slice La.a La.n La.c] 30)).alloc (.cells #[.int .i64 M.d,.int .i64 M.h,.int .i64 M.l,.int .i64 M.v,.int .i64 M.u,.int .i64 M.x,.int .i64 M.t,.int .i64 M.n] 23)) (w.heap.size+1) #[.int .i64 M.r,.int .i64 M.s,.slice La.a La.n La.c]:=(Blk.new_at 30 (w.alloc _) _ _ (by simp)).kept (bNw (Below.refl _ _) _)
 have q3:Blk 23 (((w.alloc (.cells #[.int .i64 M.d,.int .i64 M.h,.int .i64 M.l,.int .i64 M.v,.int .i64 M.u,.int .i64 M.x,.int .i64 M.t,.int .i64 M.n,.slice E.a E.n E.c,.slice L.a L.n L.c,.slice N.a N.n N.c,.slice O.a O.n O.c] 27)).alloc (.cells #[.int .i64 M.r,.int .i64 M.s,.slice La.a La.n La.c] 30)).alloc (.cells #[.int .i64 M.d,.int .i64 M.h,.int .i64 M.l,.int .i64 M.v,.int .i64 M.u,.int .i64 M.x,.int .i64 M.t,.int .i64 M.n] 23)) (w.heap.size+1+1) #[.int .i64 M.d,.int .i64 M.h,.int .i64 M.l,.int .i64 M.v,.int .i64 M.u,.int .i64 M.x,.int .i64 M.t,.int .i64 M.n]:=Blk.new_at 23 ((w.alloc _).alloc _) _ _ (by simp)
 have d1':decide ((0:Int)≤p)=true:=decide_eq_true hp.1
 have d2':decide (p<24)=true:=decide_eq_true hp.2
 have d3':decide ((0:Int)≤tok)=true:=decide_eq_true (by omega)
 have d4':decide (tok<M.v)=false:=decide_eq_false (by omega)
 clear q1 q2
 have ky:=mdneed_yes 20
 have Q3:=hdn q3
 obtain⟨z0,z1,z2,z3,z4,z5,z6,z7⟩:=q3.c8
 clear q3
 go_enter Tryz.func30,Tryz.ntmps30
 go_wp2_with (first|(go_at_call 56;refine (ky _).mono ?_;rintro e w' ⟨rfl,hq⟩;obtain rfl:=hq.symm;clear hq ky)|(go_at_call 56;refine (mdneed_no 20 _).mono ?_;rintro e w' ⟨rfl,hq⟩;obtain rfl:=hq.symm;clear hq))
 exact⟨rfl,rfl,hb0⟩
end
section
theorem run_copy45 (w:World)(g:Nat)(B:Nat)(ty:TypeId)(ta:Option Addr)(tn tc:Nat)(zs:List Int)(hs:Reads .i64 w ta tn zs)(hl:tn*8≤140737488355328)(ho:w.ownsRow B 3 1 (.slice (some ⟨g,0,none⟩) 0 0) 0 [])(hB:B≤w.heap.size):∃ a' c' w',(Builtin.append_ #[45,45] ty #[.slice (some ⟨g,0,none⟩) 0 0,.slice ta tn tc]).run Tryz.prog w=.ok (.slice a' tn c') w'∧Below w.heap.size w w'∧w'.ownsRow B 3 1 (.slice a' tn c') tn (zs.map (Value.int .i64)):=by
 obtain⟨i0,hi,hz0,hz1,hz2⟩:=info_parts info3
 have hlen:=hs.len
 by_cases h0:tn=0
 ·subst h0
  obtain rfl:zs=[]:=List.eq_nil_of_length_eq_zero (by omega)
  refine⟨some ⟨g,0,none⟩,0,w,?_,Below.refl _ _,ho⟩
  cases ta with
  | none=>simp[Builtin.append_,run_underlying Tryz.underlying45,sizeOf,typeInfo,hi,Builtin.lenOf,Builtin.firstCells,storeCells]
  | some x=>simp[Builtin.append_,run_underlying Tryz.underlying45,sizeOf,typeInfo,hi,Builtin.lenOf,Builtin.firstCells,storeCells,loadCells,loadCellsFrom]
 ·obtain⟨x,rfl⟩:=hs.some_ (by omega)
  obtain⟨v',w',hr,ho',hg⟩:=run_append_arg_grows (P:=Tryz.prog) (w:=w) 45 ty 3 i0 (.int .i64 0) 1 8 Tryz.underlying45 hi hz0 hz1 hz2 rfl (by decide) ⟨g,0,none⟩ 0 0 [] rfl (fun j u h=>by cases h) x tn tc (zs.map (Value.int .i64)) (by rw[List.length_map];omega)
   (fun j u hu=>by
    have hj:j<tn:=by
     have:=(List.getElem?_eq_some_iff.1 hu).1
     rw[List.length_map] at this
     omega
    rw[hs.cell x rfl j hj,←hu]
    simp[hlen,hj]) (by omega) (by unfold maxLen;omega) (by omega)
  simp only[Nat.zero_add,List.nil_append] at ho'
  obtain⟨a',c',ev,hre⟩:=own_reads (k:=.i64) ho' hlen hs.wf_mem (fun j hj=>copy_at .i64 zs j (by omega))
  have hb:Below w.heap.size w w':=(Below.refl w.heap.size w).grown hg (Nat.le_refl _) (fun g h=>by cases h)
  refine⟨a',c',w',by rw[hr,ev],hb,?_⟩
  rw[ev] at ho'
  refine⟨ho'.1,?_⟩
  rcases ho'.2 with h2|⟨g,cap,cur,hv,hg,r⟩
  ·exact .inl h2
  ·exact .inr ⟨g,cap,cur,hv,by omega,r⟩
theorem own_ge {w:World}{B n:Nat}{e:TypeId}{v:Value}{xs:List Value}(h:w.ownsRow B e 1 v n xs):∀ k,v.ownBlock=some k→B≤k:=by
 intro k hk
 rcases h.2 with⟨rfl,_⟩|⟨g,cap,cur,rfl,hg,_⟩
 ·cases hk
 ·obtain rfl:g=k:=by simpa [Value.ownBlock] using hk
  exact hg
theorem run_more45 (w:World)(B:Nat)(ty:TypeId)(v:Value)(n:Nat)(xs:List Int)(ho:w.ownsRow B 3 1 v n (xs.map (Value.int .i64)))(ta:Option Addr)(tn tc:Nat)(zs:List Int)(hs:Reads .i64 w ta tn zs)(he:ta=none→tc=0)(hl:(n+tn)*8≤140737488355328)(hB:B≤w.heap.size):∃ v' w',(Builtin.append_ #[45,45] ty #[v,.slice ta tn tc]).run Tryz.prog w=.ok v' w'∧Below B w w'∧w'.ownsRow B 3 1 v' (n+tn) ((xs++zs).map (Value.int .i64)):=by
 obtain⟨i0,hi,hz0,hz1,hz2⟩:=info_parts info3
 rcases ta with _|x
 ·obtain rfl:tc=0:=he rfl
  obtain rfl:tn=0:=by
   rcases Nat.eq_zero_or_pos tn with h|h
   ·exact h
   ·obtain⟨y,hy⟩:=hs.some_ h
    cases hy
  obtain rfl:zs=[]:=List.eq_nil_of_length_eq_zero hs.len
  refine⟨v,w,run_append_owned_none w B 45 ty 3 i0 1 Tryz.underlying45 hi v n _ ho,Below.refl _ _,?_⟩
  rw[List.append_nil]
  exact ho
 ·obtain⟨v',w',hr,ho',hg,-⟩:=run_append_wherem (P:=Tryz.prog) w B 45 ty 3 i0 (.int .i64 0) 8 Tryz.underlying45 hi hz0 hz1 hz2 rfl v n _ ho x tn tc (zs.map (Value.int .i64)) (by rw[List.length_map];exact hs.len) (map_cells hs) map_one (by unfold maxLen;omega) hl hB
  refine⟨v',w',hr,(Below.refl B w).grown hg hB (own_ge ho),?_⟩
  rw[List.map_append]
  exact ho'
theorem run_tail45 {ta:Option Addr}{tn tc k:Nat}(hk:k<tn)(hc:tn≤tc){x:Addr}(hx:ta=some x)(w:World):(Instr.sliceAt 45 (.slice ta tn tc) (some (.int .i64 (k:Int))) none none).run Tryz.prog w=.ok (.slice (some (x.add k)) (tn-k) (tc-k)) w:=by
 subst hx
 have h1:(k:Int)≤(tn:Int):=by omega
 have h2:¬tc-k=0:=by omega
 have h3:((tn:Int)-(k:Int)).toNat=tn-k:=by omega
 have h4:((tc:Int)-(k:Int)).toNat=tc-k:=by omega
 go_simp
 exact fun h=>absurd h (by omega)
theorem reads_drop {k:IntKind}{w:World}{x:Addr}{n s:Nat}{zs:List Int}(h:Reads k w (some x) n zs)(hs:s≤n):Reads k w (some (x.add s)) (n-s) (zs.drop s):=by
 have hl:=h.len
 have eg:∀ i,(zs.drop s).getD i 0=zs.getD (s+i) 0:=fun i=>by rw[List.getD_eq_getElem?_getD,List.getD_eq_getElem?_getD,List.getElem?_drop]
 refine⟨by rw[List.length_drop];omega,by have:=h.max;omega,fun i=>by rw[eg];exact h.wf _,fun _=>⟨_,rfl⟩,fun y hy i hi=>?_⟩
 obtain rfl:=Option.some.inj hy
 rw[eg,Addr.add_add]
 exact h.cell x rfl (s+i) (by omega)
end
end Go.Proofs.YthliomlmhfjhnaaGreat

/- GenGreedy: Sample of the best one alone, Sample without heat, and Beam with one beam are Greedy; of any case whose prompt holds at most a hundred tokens. -/
import Derived.Test.YtbkjhfmehemgpaaGreatRows
import Derived.Test.YtbkjhfmehemgpaaGreatFb50
import Derived.WalkKit
import Derived.ProofKit
import Derived.OpenShut
import Derived.ChangeOld
import Derived.Below
import Derived.WalkLawsBesides
import Derived.ChangeMaps5
import Derived.Deep.Cut
namespace Go.Proofs.YtbkjhfmehemgpaaGreat.genGreedy
open Go.ChangeShapes Go.WideShapes Go.ChangeAt Go.RowKit
set_option linter.unusedVariables false
set_option linter.unusedSimpArgs false

theorem own : ownKnob Tryz.prog.godebug = none:=by kernel_rfl
theorem laidOut : laidOutB Tryz.prog = true:=by kernel_rfl


theorem reads_off {w : World} {a : Option Addr} {n g i : Nat} {zs : List Int} (h : Reads .i64 w a n zs) (hne : ∀ x : Addr,a = some x→g ≠ x.block) (v : Value) : Reads .i64 (w.setCell ⟨g,i,none⟩ v) a n zs:=by
  cases a with
  | none => exact ⟨h.len,h.max,h.wf,h.some_,fun x hx => by cases hx⟩
  | some x => exact h.setOff (hne x rfl) v

set_option maxHeartbeats 8000000 in
set_option maxRecDepth 20000 in
theorem walk (K0 : Kg) (z0 : List Int) (w : World) (w0 : KgAt w K0 z0) :
    Calls Tryz.prog 4 #[K0.w] w fun e w' => e = .returned (.bool true)∧Below w.heap.size w w':=by
  have hb:=bNw (Below.refl w.heap.size w) (.cells K0.cs 30)
  have q0:Blk 30 (w.alloc (.cells K0.cs 30)) w.heap.size K0.cs:=Blk.new 30 w _
  have hk:=w0.q.below hb
  have ws:=w0.ws
  clear w0
  by_cases ok:okB K0.c.d K0.c.h K0.c.l K0.c.v K0.c.u K0.c.x K0.c.t K0.c.n = true
  case neg =>
    have km:=Made_no K0 (by simpa using ok)
    clear ok hk
    go_enter Tryz.func4,Tryz.ntmps4
    go_upto_region 3 with (go_at_call 15;refine (works_call _).mono ?_;rintro e V1 ⟨rfl,h⟩;replace q0:=q0.kept h;replace hb:=bTn hb h;clear h)
    refine wp_region_list ?_
    refine wpList_load_row rfl 30 (.tmp 1) rfl w.heap.size rfl 30 K0.cs (0,0) _ q0 Tryz.underlying30 rfl rfl ?_
    go_wp2_with (go_at_call 8;refine (km _).mono ?_;rintro e V2 ⟨⟨t,rfl⟩,h⟩;replace hb:=bNw (bNw (bTn hb h) (.cells #[.int .i64 0,.int .i64 0,.int .i64 0,.int .i64 0,.int .i64 0,.int .i64 0,.int .i64 0,.int .i64 0,.slice t.E.a t.E.n t.E.c,.slice t.L.a t.L.n t.L.c,.slice t.N.a t.N.n t.N.c,.slice t.O.a t.O.n t.O.c] 34)) (.cells #[.int .i64 0,.int .i64 0,.slice none 0 0] 37);clear h km)
    go_ret
    exact ⟨rfl,hb⟩
  have km:=Made_yes K0 ok ws
  clear ok
  go_enter Tryz.func4,Tryz.ntmps4
  go_upto_region 3 with (go_at_call 15;refine (works_call _).mono ?_;rintro e V1 ⟨rfl,h⟩;replace q0:=q0.kept h;replace hk:=hk.below h;replace hb:=bTn hb h;clear h)
  refine wp_region_list ?_
  refine wpList_load_row rfl 30 (.tmp 1) rfl w.heap.size rfl 30 K0.cs (0,0) _ q0 Tryz.underlying30 rfl rfl ?_
  go_upto_region 4 with (go_at_call 8;refine (km _).mono ?_;rintro e V2 ⟨⟨t,ta,rfl,hm,ha⟩,h⟩;have q5:Blk 34 ((V2.alloc (.cells (K0.rq t ta.1).mc 34)).alloc (.cells (K0.rq t ta.1).ac 37)) V2.heap.size (K0.rq t ta.1).mc:=(Blk.new 34 V2 _).kept (bNw (Below.refl _ _) _);have q6:Blk 37 ((V2.alloc (.cells (K0.rq t ta.1).mc 34)).alloc (.cells (K0.rq t ta.1).ac 37)) (V2.heap.size + 1) (K0.rq t ta.1).ac:=Blk.new_at 37 (V2.alloc _) _ _ (by simp);have hy:Below V2.heap.size V2 ((V2.alloc (.cells (K0.rq t ta.1).mc 34)).alloc (.cells (K0.rq t ta.1).ac 37)):=bNw (bNw (Below.refl _ _) _) _;replace q0:=(q0.kept h).kept hy;replace hk:=(hk.below h).below hy;replace hb:=bTn (bTn hb h) hy;have mo:=(newM_now hm).below hy;have ao:=(newA_now ha).below hy;obtain ⟨V3,e3⟩:∃ V3,(V2.alloc (.cells (K0.rq t ta.1).mc 34)).alloc (.cells (K0.rq t ta.1).ac 37) = V3:=⟨_,rfl⟩;rw [e3] at q0 q5 q6 hk hb mo ao;have E3:=hdn e3;clear e3 hm ha h hy km)
  rw [E3.out]
  clear E3
  obtain ⟨g5,e5⟩:∃ g,V2.heap.size = g:=⟨_,rfl⟩
  rw [e5] at q5 q6 ⊢
  clear e5
  have c10:V3.cell? ⟨w.heap.size,10,none⟩ = some (.int .i64 K0.q.k):=q0.cell 10 rfl
  have c11:=q0.cell 11 rfl
  by_cases h100:100 < (K0.q.n:Int)
  · go_wp2
    go_ret
    exact ⟨rfl,hb⟩
  go_upto_region 6 with fail
  have hk4:=ownAsk_call K0.q z0 V3 hk (by omega)
  have kf:∀ (w:World) (a:Addr) (x:Nat) (m:Mode),(store a (.float .f64 x) m).run Tryz.prog w = stored Tryz.prog w a (.float .f64 x) m:=fun w a x m => run_store Tryz.prog w a _ m rfl
  have c12:=q0.cell 12 rfl
  have c13:=q0.cell 13 rfl
  have c14:=q0.cell 14 rfl
  have c15:=q0.cell 15 rfl
  have c16:=q0.cell 16 rfl
  have c17:=q0.cell 17 rfl
  have c18:=q0.cell 18 rfl
  go_upto_region 7 with (go_at_call 12;refine hk4.mono ?_;rintro e V4 ⟨⟨p,C,rfl,hA⟩,h⟩;clear hk4 c10 c11 c12 c13 c14 c15 c16 c17 c18;replace q0:=q0.kept h;replace q5:=q5.kept h;replace q6:=q6.kept h;replace mo:=mo.below h;replace ao:=ao.below h;replace hb:=bTn hb h;clear h hk q0)
  have hZ:Below V4.heap.size V4 (V4.alloc (.cells (K0.q.with p C).cs 28)):=bNw (Below.refl _ _) _
  have qG:Blk 28 (V4.alloc (.cells (K0.q.with p C).cs 28)) V4.heap.size (K0.q.with p C).cs:=Blk.new 28 V4 _
  obtain ⟨V5,e5⟩:∃ V5,V4.alloc (.cells (K0.q.with p C).cs 28) = V5:=⟨_,rfl⟩
  rw [e5] at hZ qG ⊢
  obtain ⟨g,eg⟩:∃ g,V4.heap.size = g:=⟨_,rfl⟩
  have lg:V4.heap.size ≤ g:=by omega
  rw [eg] at qG ⊢
  clear eg e5
  obtain ⟨U1,eZ,q9,h9⟩:∃ U1,(V5.setCell ⟨g,0,none⟩ (.int .i64 1)) = U1∧Blk 28 U1 g (gr1 (K0.q.with p C)).cs∧Below V4.heap.size V4 U1:=⟨_,rfl,(qG.set 0 _),(hZ.setCell lg _)⟩
  have x0:=qG.cell 0 rfl
  have f0:=qG.open_ 0
  have hS:=hdn (And.intro q9 h9)
  clear q9 h9 qG hZ 
  go_upto_region 8 with fail
  obtain ⟨qG,hZ⟩:=hS.out
  clear hS eZ x0 f0
  obtain ⟨E,eE⟩:∃ E,reqE (caseR K0 t ta.1 (gr1 (K0.q.with p C))) z0 = E:=⟨_,rfl⟩
  obtain ⟨Ta,eT⟩:∃ T,ansT (caseR K0 t ta.1 (gr1 (K0.q.with p C))) z0 [] = T:=⟨_,rfl⟩
  have gda:=qG.lt
  have kc:=case_call K0 t ta.1 ta.2 (gr1 (K0.q.with p C)) z0 (show (1:Int) ≠ 3 by decide) _ (mo.below hZ) (ao.below hZ) ⟨hA.ws,hA.wL,hA.t.below hZ,hA.te,hA.tl⟩ Ta _ E eT rfl eE
  refine wp_region_list ?_
  refine wpList_load_row rfl 34 (.tmp 3) rfl g5 rfl 34 _ (0,0) _ (q5.kept hZ) Tryz.underlying34 rfl rfl ?_
  refine wpList_load_row rfl 37 (.tmp 4) rfl (g5 + 1) rfl 37 _ (0,0) _ (q6.kept hZ) Tryz.underlying37 rfl rfl ?_
  refine wpList_load_row rfl 28 (.tmp 6) rfl g rfl 28 _ (0,0) _ qG Tryz.underlying28 rfl rfl ?_
  go_upto_region 9 with (go_at_call 9;refine kc.mono ?_;rintro e Za ⟨⟨taa,tca,vaa,vca,rfl,rTa,rVa,-,fra⟩,h'⟩;clear kc rVa;replace qG:=qG.kept h';replace hZ:=bTn hZ h';clear h')
  have fna:∀ x:Addr,taa = some x→g ≠ x.block:=fun x hx => by have:=fra x hx;omega
  clear fra
  by_cases hE:E = 0
  case neg =>
    have tE : (E != 0) = true:=by simpa using hE
    obtain rfl : [] = Ta:=(ans_no (.inl (by rw [eE];exact hE))).symm.trans eT
    replace hb:=bTn hb hZ
    clear eE eT
    go_wp2
    go_ret
    exact ⟨rfl,hb⟩
  subst hE
  obtain ⟨l1,⟨E2,l2⟩,⟨E3,l3⟩,⟨E4,l4⟩⟩:=gr_law eE
  obtain ⟨TB,eB⟩:∃ TB,bestT K0 (K0.q.with p C) z0 = TB:=⟨_,rfl⟩
  rw [eB] at l1 l2 l3 l4
  obtain rfl:Ta = TB:=eT.symm.trans l1
  have L2:=hdn (And.intro E2 l2)
  have L3:=hdn (And.intro E3 l3)
  have L4:=hdn (And.intro E4 l4)
  clear E2 l2 E3 l3 E4 l4 eB l1 eT eE
  go_upto_region 11 with fail
  obtain ⟨U2,eZ,q9,h9,r9a⟩:∃ U2,(((Za.setCell ⟨g,0,none⟩ (.int .i64 2)).setCell ⟨g,5,none⟩ (.int .i64 1)).setCell ⟨g,6,none⟩ (.float .f64 hOne)) = U2∧Blk 28 U2 g (gr2 (K0.q.with p C)).cs∧Below V4.heap.size V4 U2∧Reads .i64 U2 taa Ta.length Ta:=⟨_,rfl,(((qG.set 0 _).set 5 _).set 6 _),(((hZ.setCell lg _).setCell lg _).setCell lg _),(reads_off (reads_off (reads_off rTa fna _) fna _) fna _)⟩
  have x0:=qG.cell 0 rfl
  have f0:=qG.open_ 0
  have x5:=qG.cell 5 rfl
  have f5:=qG.open_ 5
  have x6:=qG.cell 6 rfl
  have f6:=qG.open_ 6
  have hS:=hdn (And.intro (And.intro q9 h9) r9a)
  clear q9 h9 qG hZ r9a rTa
  go_upto_region 12 with fail
  obtain ⟨⟨qG,hZ⟩,rTa⟩:=hS.out
  clear hS eZ x0 f0 x5 f5 x6 f6
  have gdb:=qG.lt
  have kc:=case_call K0 t ta.1 ta.2 (gr2 (K0.q.with p C)) z0 (show (2:Int) ≠ 3 by decide) _ (mo.below hZ) (ao.below hZ) ⟨hA.ws,hA.wL,hA.t.below hZ,hA.te,hA.tl⟩ Ta _ 0 L2.out.2 rfl L2.out.1
  refine wp_region_list ?_
  refine wpList_load_row rfl 34 (.tmp 3) rfl g5 rfl 34 _ (0,0) _ (q5.kept hZ) Tryz.underlying34 rfl rfl ?_
  refine wpList_load_row rfl 37 (.tmp 4) rfl (g5 + 1) rfl 37 _ (0,0) _ (q6.kept hZ) Tryz.underlying37 rfl rfl ?_
  refine wpList_load_row rfl 28 (.tmp 6) rfl g rfl 28 _ (0,0) _ qG Tryz.underlying28 rfl rfl ?_
  go_upto_region 13 with (go_at_call 9;refine kc.mono ?_;rintro e Zb ⟨⟨tab,tcb,vab,vcb,rfl,rTb,rVb,-,frb⟩,h'⟩;clear kc rVb;replace qG:=qG.kept h';replace hZ:=bTn hZ h';replace rTa:=rTa.below h';clear h')
  have fnb:∀ x:Addr,tab = some x→g ≠ x.block:=fun x hx => by have:=frb x hx;omega
  clear frb
  obtain ⟨U3,eZ,q9,h9,r9a,r9b⟩:∃ U3,((Zb.setCell ⟨g,5,none⟩ (.int .i64 2)).setCell ⟨g,6,none⟩ (.float .f64 hNeg)) = U3∧Blk 28 U3 g (gr3 (K0.q.with p C)).cs∧Below V4.heap.size V4 U3∧Reads .i64 U3 taa Ta.length Ta∧Reads .i64 U3 tab Ta.length Ta:=⟨_,rfl,((qG.set 5 _).set 6 _),((hZ.setCell lg _).setCell lg _),(reads_off (reads_off rTa fna _) fna _),(reads_off (reads_off rTb fnb _) fnb _)⟩
  have x5:=qG.cell 5 rfl
  have f5:=qG.open_ 5
  have x6:=qG.cell 6 rfl
  have f6:=qG.open_ 6
  have hS:=hdn (And.intro (And.intro (And.intro q9 h9) r9a) r9b)
  clear q9 h9 qG hZ r9a rTa r9b rTb
  go_upto_region 14 with fail
  obtain ⟨⟨⟨qG,hZ⟩,rTa⟩,rTb⟩:=hS.out
  clear hS eZ x5 f5 x6 f6
  have gdc:=qG.lt
  have kc:=case_call K0 t ta.1 ta.2 (gr3 (K0.q.with p C)) z0 (show (2:Int) ≠ 3 by decide) _ (mo.below hZ) (ao.below hZ) ⟨hA.ws,hA.wL,hA.t.below hZ,hA.te,hA.tl⟩ Ta _ 0 L3.out.2 rfl L3.out.1
  refine wp_region_list ?_
  refine wpList_load_row rfl 34 (.tmp 3) rfl g5 rfl 34 _ (0,0) _ (q5.kept hZ) Tryz.underlying34 rfl rfl ?_
  refine wpList_load_row rfl 37 (.tmp 4) rfl (g5 + 1) rfl 37 _ (0,0) _ (q6.kept hZ) Tryz.underlying37 rfl rfl ?_
  refine wpList_load_row rfl 28 (.tmp 6) rfl g rfl 28 _ (0,0) _ qG Tryz.underlying28 rfl rfl ?_
  go_upto_region 15 with (go_at_call 9;refine kc.mono ?_;rintro e Zc ⟨⟨tac,tcc,vac,vcc,rfl,rTc,rVc,-,frc⟩,h'⟩;clear kc rVc;replace qG:=qG.kept h';replace hZ:=bTn hZ h';replace rTa:=rTa.below h';replace rTb:=rTb.below h';clear h')
  have fnc:∀ x:Addr,tac = some x→g ≠ x.block:=fun x hx => by have:=frc x hx;omega
  clear frc
  obtain ⟨U4,eZ,q9,h9,r9a,r9b,r9c⟩:∃ U4,(((Zc.setCell ⟨g,0,none⟩ (.int .i64 3)).setCell ⟨g,7,none⟩ (.int .i64 1)).setCell ⟨g,8,none⟩ (.int .i64 7)) = U4∧Blk 28 U4 g (gr4 (K0.q.with p C)).cs∧Below V4.heap.size V4 U4∧Reads .i64 U4 taa Ta.length Ta∧Reads .i64 U4 tab Ta.length Ta∧Reads .i64 U4 tac Ta.length Ta:=⟨_,rfl,(((qG.set 0 _).set 7 _).set 8 _),(((hZ.setCell lg _).setCell lg _).setCell lg _),(reads_off (reads_off (reads_off rTa fna _) fna _) fna _),(reads_off (reads_off (reads_off rTb fnb _) fnb _) fnb _),(reads_off (reads_off (reads_off rTc fnc _) fnc _) fnc _)⟩
  have x0:=qG.cell 0 rfl
  have f0:=qG.open_ 0
  have x7:=qG.cell 7 rfl
  have f7:=qG.open_ 7
  have x8:=qG.cell 8 rfl
  have f8:=qG.open_ 8
  have hS:=hdn (And.intro (And.intro (And.intro (And.intro q9 h9) r9a) r9b) r9c)
  clear q9 h9 qG hZ r9a rTa r9b rTb r9c rTc
  go_upto_region 16 with fail
  obtain ⟨⟨⟨⟨qG,hZ⟩,rTa⟩,rTb⟩,rTc⟩:=hS.out
  clear hS eZ x0 f0 x7 f7 x8 f8
  have gdd:=qG.lt
  have kc:=beam_ans K0 t ta.1 ta.2 (gr4 (K0.q.with p C)) z0 rfl _ (mo.below hZ) (ao.below hZ) ⟨hA.ws,hA.wL,hA.t.below hZ,hA.te,hA.tl⟩ Ta _ 0 L4.out.2 rfl L4.out.1
  refine wp_region_list ?_
  refine wpList_load_row rfl 34 (.tmp 3) rfl g5 rfl 34 _ (0,0) _ (q5.kept hZ) Tryz.underlying34 rfl rfl ?_
  refine wpList_load_row rfl 37 (.tmp 4) rfl (g5 + 1) rfl 37 _ (0,0) _ (q6.kept hZ) Tryz.underlying37 rfl rfl ?_
  refine wpList_load_row rfl 28 (.tmp 6) rfl g rfl 28 _ (0,0) _ qG Tryz.underlying28 rfl rfl ?_
  go_upto_region 17 with (go_at_call 9;refine kc.mono ?_;rintro e Zd ⟨⟨tad,tcd,vad,vcd,rfl,rTd,rVd,-,frd⟩,h'⟩;clear kc rVd;replace qG:=qG.kept h';replace hZ:=bTn hZ h';replace rTa:=rTa.below h';replace rTb:=rTb.below h';replace rTc:=rTc.below h';clear h')
  have fnd:∀ x:Addr,tad = some x→g ≠ x.block:=fun x hx => by have:=frd x hx;omega
  clear frd
  replace hb:=bTn hb hZ
  clear qG hZ q5 q6 mo ao hA L2 L3 L4 fna fnb fnc fnd
  go_wp2_with (first
    | (go_at_call 14;refine (same_ints taa _ tca Ta tab _ tcb _ rTa rTb).mono ?_;rintro e Y1 ⟨rfl,h'⟩;replace hb:=bTn hb h';replace rTa:=rTa.below h';replace rTc:=rTc.below h';replace rTd:=rTd.below h';clear h' rTb)
    | (go_at_call 14;refine (same_ints taa _ tca Ta tac _ tcc _ rTa rTc).mono ?_;rintro e Y2 ⟨rfl,h'⟩;replace hb:=bTn hb h';replace rTa:=rTa.below h';replace rTd:=rTd.below h';clear h' rTc)
    | (go_at_call 14;refine (same_ints taa _ tca Ta tad _ tcd _ rTa rTd).mono ?_;rintro e Y3 ⟨rfl,h'⟩;replace hb:=bTn hb h';clear h' rTd))
  go_ret
  exact ⟨rfl,hb⟩

set_option maxRecDepth 100000 in
theorem contract (H : Type) (enc : TypeId × Value→H) (W : World) (base : Nat) (args : Array Value) (ds gs : List (DataW H)) (before : List MemPlace)
    (hval0:∀ (j:Nat) t v,Tryz.f4.params[j]? = some t→args[j]? = some v→Value.okWide Tryz.prog W .any base t v)
    (hW:DataW.Whole enc Tryz.prog Tryz.f4.params.toList Rows.genGreedySpec.vars false W args.toList ds gs before) :
    Calls Tryz.prog 4 args W fun e W' => ∃ v,e = .returned v∧Rows.genGreedySpec.post enc Tryz.prog Tryz.f4 false true false false W args v W':=by
  have hval:∀ (j:Nat) t v,Tryz.f4.params[j]? = some t→args[j]? = some v→Value.okWide Tryz.prog W .any base t v:=hval0
  have hW':=hW
  obtain ⟨p,q,hA0,hV,rfl,hfz,hnd⟩:=hW
  have hA:DataW.TrodAll enc Tryz.prog W 0 (fun _ => true) true Tryz.f4.params.toList args.toList ds p:=hA0
  rw [Tryz.params4] at hA hval
  obtain ⟨v0,vs0,d0,ds0,p0,q0,hargs,rfl,rfl,h0,r0⟩:=trodAll_cons hA
  obtain ⟨rfl,rfl,rfl⟩:=trodAll_nil r0
  obtain rfl:args = #[v0]:=by cases args;simp_all
  obtain ⟨rfl,rfl⟩:=trodVars_none hV
  have k0:=h0
  have lt0:∀ x ∈ p0,x.block < W.heap.size:=by obtain ⟨m,hm⟩:=k0;exact DataW.trod_lt m _ _ _ hm
  obtain ⟨K0,z0,rfl,w0⟩:=open_kg (hval 0 30 v0 rfl rfl) h0
  clear hA0 hval0
  refine (walk K0 z0 W w0).mono fun e W' ⟨he,bel⟩ => ?_
  subst he
  exact ⟨_,rfl,_,_,_,[],_,[],hW',trodAll_mk1 (shut_bool Tryz.underlying4 _),(trodAll_cons_mk (Below.trod laidOut (by kernel_rfl) (of_decide_eq_true (by kernel_rfl)) k0 bel lt0) trodAll_mk0),rfl,bel.frame _,fun h => by cases h⟩

set_option maxRecDepth 100000 in
theorem lifted (os : Os) (started : os.Started) (H : Type) (enc : TypeId × Value→H) :
    ReturnsInHanded {} Tryz.checked os 4 .any (Rows.genGreedySpec.pre6 enc Tryz.prog Tryz.f4 Rows.genGreedyRow.domain false) (Rows.genGreedySpec.post enc Tryz.prog Tryz.f4 false true false false):=by
  refine returnsInHanded_of_change (C:=Tryz.checked) own started (by kernel_rfl) Tryz.func4
    (ChangeSpec.witness6 (enc:=enc) (C:=Tryz.checked) false ⟨#[],#[.agg #[.int .i64 0,.int .i64 0,.int .i64 0,.int .i64 0,.int .i64 0,.int .i64 0,.int .i64 0,.int .i64 0,.int .u64 0,.int .i64 0,.int .i64 0,.slice none 0 0,.int .i64 0,.int .i64 0,.int .u64 0,.int .i64 0,.float .f64 0,.int .i64 0,.int .i64 0]],[]⟩ 8 (by kernel_rfl) (by kernel_rfl) (by kernel_rfl) (by kernel_rfl)) ?_
  intro W base args ds gs before hval hW _ _
  exact contract H enc W base args ds gs before hval hW

theorem over : Rows.genGreedyRow.holds Tryz.pinned (OpenSpec.ofChange Rows.genGreedySpec) :=
  OpenClaim.holds_of_wide 4 Tryz.f4 rfl rfl rfl rfl rfl rfl rfl ⟨rfl,rfl,rfl,rfl,rfl⟩ rfl rfl rfl rfl rfl (by kernel_rfl) Tryz.func4 (by kernel_rfl)
    (of_decide_eq_true (by kernel_rfl)) (by unfold Func.isWrapper;first | (rw [if_pos (by decide +kernel)];kernel_rfl) | (rw [if_neg (by decide +kernel)];exact ⟨rfl,rfl⟩))
    (fun os started H enc _ => lifted os started H enc)

theorem proved : Rows.GenGreedySaid :=
  over
#print axioms proved
end Go.Proofs.YtbkjhfmehemgpaaGreat.genGreedy

/- GenFields: fields of other kinds do not matter: of any case and any other ask, an embedding is the same whatever else is asked for, and so is a greedy answer; of cases whose prompt holds at most a hundred tokens. -/
import Derived.Test.YtbkjhfmehemgpaaGreatRows
import Derived.Test.YtbkjhfmehemgpaaGreatFa44
import Derived.Test.YtbkjhfmehemgpaaGreatFa45
import Derived.WalkKit
import Derived.ProofKit
import Derived.OpenShut
import Derived.ChangeOld
import Derived.Below
import Derived.WalkLawsBesides
import Derived.ChangeMaps5
import Derived.Deep.Cut
namespace Go.Proofs.YtbkjhfmehemgpaaGreat.genFields
open Go.ChangeShapes Go.WideShapes Go.ChangeAt Go.RowKit
set_option linter.unusedVariables false
set_option linter.unusedSimpArgs false

theorem own : ownKnob Tryz.prog.godebug = none := by kernel_rfl
theorem laidOut : laidOutB Tryz.prog = true := by kernel_rfl


abbrev emb (q : Aq) (p : Option Addr) (n c : Nat) : Aq := ⟨4, p, n, c, q.L, q.S, q.sd, q.T, q.H, q.B, q.E⟩
abbrev gre (q : Aq) (p : Option Addr) (n c : Nat) (L S : Int) : Aq := ⟨1, p, n, c, L, S, q.sd, q.T, q.H, q.B, q.E⟩
theorem emb_same (k : Kg) (t : MT) (La : SL) (q o : Aq) (p : Option Addr) (n c : Nat) (zs : List Int) : reqE (caseR k t La (emb o p n c)) zs = reqE (caseR k t La (emb q p n c)) zs ∧ ansV (caseR k t La (emb o p n c)) zs = ansV (caseR k t La (emb q p n c)) zs := by
  have e : reqE (caseR k t La (emb o p n c)) zs = reqE (caseR k t La (emb q p n c)) zs := by simp [reqE, checkZ, kindZ, longZ]
  refine ⟨e, ?_⟩
  unfold ansV
  rw [e]
  rfl
theorem gre_same (k : Kg) (t : MT) (La : SL) (q o : Aq) (p : Option Addr) (n c : Nat) (L S : Int) (zs : List Int) : reqE (caseR k t La (gre o p n c L S)) zs = reqE (caseR k t La (gre q p n c L S)) zs ∧ ansT (caseR k t La (gre o p n c L S)) zs [] = ansT (caseR k t La (gre q p n c L S)) zs [] := by
  have e : reqE (caseR k t La (gre o p n c L S)) zs = reqE (caseR k t La (gre q p n c L S)) zs := by simp [reqE, checkZ, kindZ, longZ, endZ]
  refine ⟨e, ?_⟩
  unfold ansT
  rw [e]
  have nx : ∀ l, nxZ (caseR k t La (gre o p n c L S)) zs l = nxZ (caseR k t La (gre q p n c L S)) zs l := fun l => by simp [nxZ, nextZ]
  have f : nxZ (caseR k t La (gre o p n c L S)) zs = nxZ (caseR k t La (gre q p n c L S)) zs := funext nx
  simp only [tokensZ, f]
theorem two_set {w V : World} {g h : Nat} {q o : Aq} (hg : w.heap.size ≤ g) (hh : w.heap.size ≤ h) (ne : g ≠ h) (b : Below w.heap.size w V) (q0 : Blk 28 V g q.cs) (q1 : Blk 28 V h o.cs) :
    ∃ Z, ((V.setCell ⟨g, 0, none⟩ (.int .i64 4)).setCell ⟨h, 0, none⟩ (.int .i64 4)).setCell ⟨h, 1, none⟩ (.slice q.a q.n q.c) = Z ∧ Blk 28 Z g (emb q q.a q.n q.c).cs ∧ Blk 28 Z h (emb o q.a q.n q.c).cs ∧ Below w.heap.size w Z := by
  have keep : ∀ (U : World) (a b : Nat) (i : Nat) (v : Value) (cs : Array Value), a ≠ b → Blk 28 U a cs → Blk 28 (U.setCell ⟨b, i, none⟩ v) a cs := fun U a b i v cs hn hq => (Below.heap_setCell _ _ _ _ (by simpa using hn)).trans hq
  exact ⟨_, rfl, keep _ _ _ _ _ _ ne (keep _ _ _ _ _ _ ne (q0.set 0 _)), ((keep _ _ _ _ _ _ ne.symm q1).set 0 _).set 1 _, ((b.setCell hg _).setCell hh _).setCell hh _⟩
theorem four_set {w V : World} {g h : Nat} {q o : Aq} (hg : w.heap.size ≤ g) (hh : w.heap.size ≤ h) (ne : g ≠ h) (b : Below w.heap.size w V) (q0 : Blk 28 V g (emb q q.a q.n q.c).cs) (q1 : Blk 28 V h (emb o q.a q.n q.c).cs) :
    ∃ Z, (((V.setCell ⟨g, 0, none⟩ (.int .i64 1)).setCell ⟨h, 0, none⟩ (.int .i64 1)).setCell ⟨h, 2, none⟩ (.int .i64 q.L)).setCell ⟨h, 3, none⟩ (.int .i64 q.S) = Z ∧ Blk 28 Z g (gre q q.a q.n q.c q.L q.S).cs ∧ Blk 28 Z h (gre o q.a q.n q.c q.L q.S).cs ∧ Below w.heap.size w Z := by
  have keep : ∀ (U : World) (a b : Nat) (i : Nat) (v : Value) (cs : Array Value), a ≠ b → Blk 28 U a cs → Blk 28 (U.setCell ⟨b, i, none⟩ v) a cs := fun U a b i v cs hn hq => (Below.heap_setCell _ _ _ _ (by simpa using hn)).trans hq
  exact ⟨_, rfl, keep _ _ _ _ _ _ ne (keep _ _ _ _ _ _ ne (keep _ _ _ _ _ _ ne (q0.set 0 _))), (((keep _ _ _ _ _ _ ne.symm q1).set 0 _).set 2 _).set 3 _, (((b.setCell hg _).setCell hh _).setCell hh _).setCell hh _⟩

set_option maxHeartbeats 4000000 in
set_option maxRecDepth 20000 in
theorem walk (K0 : Kg) (z0 : List Int) (Q1 : Aq) (z1 : List Int) (w : World) (w0 : KgAt w K0 z0) (w1 : AkAt w Q1 z1) :
    Calls Tryz.prog 7 #[K0.w, Q1.w] w fun e w' => e = .returned (.bool true) ∧ Below w.heap.size w w' := by
  have hb := below_new (below_new (Below.refl w.heap.size w) (.cells K0.cs 30)) (.cells Q1.cs 28)
  have q0 : Blk 30 ((w.alloc (.cells K0.cs 30)).alloc (.cells Q1.cs 28)) w.heap.size K0.cs := (Blk.new 30 w _).kept (below_new (Below.refl _ _) _)
  have q1 : Blk 28 ((w.alloc (.cells K0.cs 30)).alloc (.cells Q1.cs 28)) (w.heap.size + 1) Q1.cs := Blk.new_at 28 (w.alloc _) _ _ (by simp)
  have hk := w0.q.below hb
  have ws := w0.ws
  obtain ⟨u1, u2⟩ := And.intro w1.ws w1.wL
  clear w1 w0
  by_cases ok : okB K0.c.d K0.c.h K0.c.l K0.c.v K0.c.u K0.c.x K0.c.t K0.c.n = true
  case neg =>
    have km := Made_no K0 (by simpa using ok)
    clear ok hk
    go_enter Tryz.func7, Tryz.ntmps7
    go_upto_region 3 with (go_at_call 15; refine (works_call _).mono ?_; rintro e V1 ⟨rfl, h⟩; replace q0 := q0.kept h; replace hb := below_then hb h; clear h)
    refine wp_region_list ?_
    refine wpList_load_row rfl 30 (.tmp 2) rfl w.heap.size rfl 30 K0.cs (0,0) _ q0 Tryz.underlying30 rfl rfl ?_
    go_wp2_with (go_at_call 8; refine (km _).mono ?_; rintro e V2 ⟨⟨t, rfl⟩, h⟩; replace hb := below_new (below_new (below_then hb h) (.cells #[.int .i64 0, .int .i64 0, .int .i64 0, .int .i64 0, .int .i64 0, .int .i64 0, .int .i64 0, .int .i64 0, .slice t.E.a t.E.n t.E.c, .slice t.L.a t.L.n t.L.c, .slice t.N.a t.N.n t.N.c, .slice t.O.a t.O.n t.O.c] 34)) (.cells #[.int .i64 0, .int .i64 0, .slice none 0 0] 37); clear h km)
    go_ret
    exact ⟨rfl, hb⟩
  have km := Made_yes K0 ok ws
  clear ok
  go_enter Tryz.func7, Tryz.ntmps7
  go_upto_region 3 with (go_at_call 15; refine (works_call _).mono ?_; rintro e V1 ⟨rfl, h⟩; replace q0 := q0.kept h; replace q1 := q1.kept h; replace hk := hk.below h; replace hb := below_then hb h; clear h)
  refine wp_region_list ?_
  refine wpList_load_row rfl 30 (.tmp 2) rfl w.heap.size rfl 30 K0.cs (0,0) _ q0 Tryz.underlying30 rfl rfl ?_
  go_upto_region 4 with (go_at_call 8; refine (km _).mono ?_; rintro e V2 ⟨⟨t, ta, rfl, hm, ha⟩, h⟩; have hx := below_new (below_new (below_new (Below.refl V2.heap.size V2) (.cells (K0.rq t ta.1).mc 34)) (.cells (K0.rq t ta.1).ac 37)) (.cells #[] 3); have q5 : Blk 34 ((V2.alloc (.cells (K0.rq t ta.1).mc 34)).alloc (.cells (K0.rq t ta.1).ac 37)) V2.heap.size (K0.rq t ta.1).mc := (Blk.new 34 V2 _).kept (below_new (Below.refl _ _) _); have q6 : Blk 37 ((V2.alloc (.cells (K0.rq t ta.1).mc 34)).alloc (.cells (K0.rq t ta.1).ac 37)) (V2.heap.size + 1) (K0.rq t ta.1).ac := Blk.new_at 37 (V2.alloc _) _ _ (by simp); clear hx; have hy : Below V2.heap.size V2 ((V2.alloc (.cells (K0.rq t ta.1).mc 34)).alloc (.cells (K0.rq t ta.1).ac 37)) := below_new (below_new (Below.refl _ _) _) _; replace q0 := (q0.kept h).kept hy; replace q1 := (q1.kept h).kept hy; replace hk := (hk.below h).below hy; replace hb := below_then (below_then hb h) hy; have mo := (newM_now hm).below hy; have ao := (newA_now ha).below hy; obtain ⟨V3, e3⟩ : ∃ V3, (V2.alloc (.cells (K0.rq t ta.1).mc 34)).alloc (.cells (K0.rq t ta.1).ac 37) = V3 := ⟨_, rfl⟩; rw [e3] at q0 q1 q5 q6 hk hb mo ao; have E3 := hidden_ e3; clear e3 hm ha h hy km)
  rw [E3.out]
  clear E3
  obtain ⟨g5, e5⟩ : ∃ g, V2.heap.size = g := ⟨_, rfl⟩
  rw [e5] at q5 q6 ⊢
  clear e5
  have c11 := q0.cell 11 rfl
  by_cases h100 : 100 < (K0.q.n : Int)
  · go_wp2
    go_ret
    exact ⟨rfl, hb⟩
  go_upto_region 6 with fail
  have hk4 := ownAsk_call K0.q z0 V3 hk (by omega)
  have kf : ∀ (w : World) (a : Addr) (x : Nat) (m : Mode), (store a (.float .f64 x) m).run Tryz.prog w = stored Tryz.prog w a (.float .f64 x) m := fun w a x m => run_store Tryz.prog w a _ m rfl
  have c10 := q0.cell 10 rfl
  have c12 := q0.cell 12 rfl
  have c13 := q0.cell 13 rfl
  have c14 := q0.cell 14 rfl
  have c15 := q0.cell 15 rfl
  have c16 := q0.cell 16 rfl
  have c17 := q0.cell 17 rfl
  have c18 := q0.cell 18 rfl
  go_upto_region 8 with (go_at_call 12; refine hk4.mono ?_; rintro e V4 ⟨⟨p, C, rfl, hA⟩, h⟩; clear hk4 c10 c11 c12 c13 c14 c15 c16 c17 c18; replace q0 := q0.kept h; replace q1 := q1.kept h; replace q5 := q5.kept h; replace q6 := q6.kept h; replace mo := mo.below h; replace ao := ao.below h; replace hb := below_then hb h; clear h hk; obtain ⟨d0, d1, d2, d3, d4, d5, d6, d7, d8⟩ := (q1.kept (below_new (Below.refl _ _) (.cells (K0.q.with p C).cs 28))).ask)
  have hV : Below V4.heap.size V4 ((V4.alloc (.cells (K0.q.with p C).cs 28)).alloc (.cells Q1.cs 28)) := below_new (below_new (Below.refl _ _) _) _
  have qg : Blk 28 ((V4.alloc (.cells (K0.q.with p C).cs 28)).alloc (.cells Q1.cs 28)) V4.heap.size (K0.q.with p C).cs := (Blk.new 28 V4 _).kept (below_new (Below.refl _ _) _)
  have qh : Blk 28 ((V4.alloc (.cells (K0.q.with p C).cs 28)).alloc (.cells Q1.cs 28)) (V4.heap.size + 1) Q1.cs := Blk.new_at 28 (V4.alloc _) _ _ (by simp)
  obtain ⟨V5, e5⟩ : ∃ V5, (V4.alloc (.cells (K0.q.with p C).cs 28)).alloc (.cells Q1.cs 28) = V5 := ⟨_, rfl⟩
  rw [e5] at hV qg qh ⊢
  clear e5 d0 d1 d2 d3 d4 d5 d6 d7 d8 q0 q1
  obtain ⟨g, eg⟩ : ∃ g, V4.heap.size = g := ⟨_, rfl⟩
  obtain ⟨h, eh⟩ : ∃ h, V4.heap.size + 1 = h := ⟨_, rfl⟩
  rw [eg] at qg
  rw [eh] at qh
  have ne : g ≠ h := by omega
  have lg : V4.heap.size ≤ g := by omega
  have lh : V4.heap.size ≤ h := by omega
  rw [eh]
  rw [eg]
  clear eg eh
  obtain ⟨Z, eZ, qG, qH, hZ⟩ := two_set (q := K0.q.with p C) lg lh ne hV qg qh
  have x0 := qg.cell 0 rfl
  have x1 := qg.cell 1 rfl
  have f0 := qg.open_ 0
  have y0 := qh.cell 0 rfl
  have y1 := qh.cell 1 rfl
  have k0 := qh.open_ 0
  have k1 := qh.open_ 1
  have hS := hidden_ (And.intro qG (And.intro qH hZ))
  clear qG qH hZ qg qh hV
  go_upto_region 9 with fail
  obtain ⟨qG, qH, hZ⟩ := hS.out
  clear hS x0 x1 f0 y0 y1 k0 k1 eZ
  obtain ⟨Ea, e1a⟩ : ∃ E, reqE (caseR K0 t ta.1 (emb (K0.q.with p C) p K0.q.n C)) z0 = E := ⟨_, rfl⟩
  obtain ⟨Ta, e2a⟩ : ∃ T, ansT (caseR K0 t ta.1 (emb (K0.q.with p C) p K0.q.n C)) z0 [] = T := ⟨_, rfl⟩
  obtain ⟨Va, e3a⟩ : ∃ V, ansV (caseR K0 t ta.1 (emb (K0.q.with p C) p K0.q.n C)) z0 = V := ⟨_, rfl⟩
  have kc := case_call K0 t ta.1 ta.2 (emb (K0.q.with p C) p K0.q.n C) z0 (show (4 : Int) ≠ 3 by decide) _ (mo.below hZ) (ao.below hZ) ⟨hA.ws, hA.wL, hA.t.below hZ, hA.te, hA.tl⟩ Ta Va Ea e2a e3a e1a
  refine wp_region_list ?_
  refine wpList_load_row rfl 34 (.tmp 5) rfl g5 rfl 34 _ (0,0) _ (q5.kept hZ) Tryz.underlying34 rfl rfl ?_
  refine wpList_load_row rfl 37 (.tmp 6) rfl (g5 + 1) rfl 37 _ (0,0) _ (q6.kept hZ) Tryz.underlying37 rfl rfl ?_
  refine wpList_load_row rfl 28 (.tmp 8) rfl g rfl 28 _ (0,0) _ qG Tryz.underlying28 rfl rfl ?_
  go_upto_region 10 with (go_at_call 9; refine kc.mono ?_; rintro e Za ⟨⟨taa, tca, vaa, vca, rfl, rTa, rVa, -⟩, h'⟩; clear kc; replace qG := qG.kept h'; replace qH := qH.kept h'; replace hZ := below_then hZ h'; clear h')
  obtain ⟨Eb, e1b⟩ : ∃ E, reqE (caseR K0 t ta.1 (emb Q1 p K0.q.n C)) z0 = E := ⟨_, rfl⟩
  obtain ⟨Tb, e2b⟩ : ∃ T, ansT (caseR K0 t ta.1 (emb Q1 p K0.q.n C)) z0 [] = T := ⟨_, rfl⟩
  obtain ⟨Vb, e3b⟩ : ∃ V, ansV (caseR K0 t ta.1 (emb Q1 p K0.q.n C)) z0 = V := ⟨_, rfl⟩
  have kc := case_call K0 t ta.1 ta.2 (emb Q1 p K0.q.n C) z0 (show (4 : Int) ≠ 3 by decide) _ (mo.below hZ) (ao.below hZ) ⟨u1, u2, hA.t.below hZ, hA.te, hA.tl⟩ Tb Vb Eb e2b e3b e1b
  refine wp_region_list ?_
  refine wpList_load_row rfl 34 (.tmp 5) rfl g5 rfl 34 _ (0,0) _ (q5.kept hZ) Tryz.underlying34 rfl rfl ?_
  refine wpList_load_row rfl 37 (.tmp 6) rfl (g5 + 1) rfl 37 _ (0,0) _ (q6.kept hZ) Tryz.underlying37 rfl rfl ?_
  refine wpList_load_row rfl 28 (.tmp 9) rfl h rfl 28 _ (0,0) _ qH Tryz.underlying28 rfl rfl ?_
  go_upto_region 11 with (go_at_call 9; refine kc.mono ?_; rintro e Zb ⟨⟨tab, tcb, vab, vcb, rfl, rTb, rVb, -⟩, h'⟩; clear kc; replace qG := qG.kept h'; replace qH := qH.kept h'; replace hZ := below_then hZ h'; replace rVa := rVa.below h'; clear h')
  have es := emb_same K0 t ta.1 (K0.q.with p C) Q1 p K0.q.n C z0
  obtain rfl : Ea = Eb := e1a.symm.trans (es.1.symm.trans e1b)
  obtain rfl : Va = Vb := e3a.symm.trans (es.2.symm.trans e3b)
  have NE : (Ea != Ea) = false := by simp
  clear es e1a e1b e2a e2b e3a e3b
  go_upto_region 13 with (go_at_call 14; refine (same_ints vaa _ vca Va vab _ vcb _ rVa rVb).mono ?_; rintro e Zs ⟨rfl, h'⟩; replace qG := qG.kept h'; replace qH := qH.kept h'; replace hZ := below_then hZ h'; clear h' rVa rVb rTa rTb)
  obtain ⟨Z2, eZ, qG', qH', hZ'⟩ := four_set (q := K0.q.with p C) lg lh ne hZ qG qH
  have x0 := qG.cell 0 rfl
  have x2 := qG.cell 2 rfl
  have x3 := qG.cell 3 rfl
  have f0 := qG.open_ 0
  have y0 := qH.cell 0 rfl
  have y2 := qH.cell 2 rfl
  have y3 := qH.cell 3 rfl
  have k0 := qH.open_ 0
  have k2 := qH.open_ 2
  have k3 := qH.open_ 3
  have hS := hidden_ (And.intro qG' (And.intro qH' hZ'))
  clear qG' qH' hZ' qG qH hZ
  go_upto_region 14 with fail
  obtain ⟨qG, qH, hZ⟩ := hS.out
  clear hS x0 x2 x3 f0 y0 y2 y3 k0 k2 k3 eZ
  obtain ⟨Ec, e1c⟩ : ∃ E, reqE (caseR K0 t ta.1 (gre (K0.q.with p C) p K0.q.n C K0.q.L K0.q.S)) z0 = E := ⟨_, rfl⟩
  obtain ⟨Tc, e2c⟩ : ∃ T, ansT (caseR K0 t ta.1 (gre (K0.q.with p C) p K0.q.n C K0.q.L K0.q.S)) z0 [] = T := ⟨_, rfl⟩
  obtain ⟨Vc, e3c⟩ : ∃ V, ansV (caseR K0 t ta.1 (gre (K0.q.with p C) p K0.q.n C K0.q.L K0.q.S)) z0 = V := ⟨_, rfl⟩
  have kc := case_call K0 t ta.1 ta.2 (gre (K0.q.with p C) p K0.q.n C K0.q.L K0.q.S) z0 (show (1 : Int) ≠ 3 by decide) _ (mo.below hZ) (ao.below hZ) ⟨hA.ws, hA.wL, hA.t.below hZ, hA.te, hA.tl⟩ Tc Vc Ec e2c e3c e1c
  refine wp_region_list ?_
  refine wpList_load_row rfl 34 (.tmp 5) rfl g5 rfl 34 _ (0,0) _ (q5.kept hZ) Tryz.underlying34 rfl rfl ?_
  refine wpList_load_row rfl 37 (.tmp 6) rfl (g5 + 1) rfl 37 _ (0,0) _ (q6.kept hZ) Tryz.underlying37 rfl rfl ?_
  refine wpList_load_row rfl 28 (.tmp 8) rfl g rfl 28 _ (0,0) _ qG Tryz.underlying28 rfl rfl ?_
  go_upto_region 15 with (go_at_call 9; refine kc.mono ?_; rintro e Zc ⟨⟨tac, tcc, vac, vcc, rfl, rTc, rVc, -⟩, h'⟩; clear kc; replace qG := qG.kept h'; replace qH := qH.kept h'; replace hZ := below_then hZ h'; clear h')
  obtain ⟨Ed, e1d⟩ : ∃ E, reqE (caseR K0 t ta.1 (gre Q1 p K0.q.n C K0.q.L K0.q.S)) z0 = E := ⟨_, rfl⟩
  obtain ⟨Td, e2d⟩ : ∃ T, ansT (caseR K0 t ta.1 (gre Q1 p K0.q.n C K0.q.L K0.q.S)) z0 [] = T := ⟨_, rfl⟩
  obtain ⟨Vd, e3d⟩ : ∃ V, ansV (caseR K0 t ta.1 (gre Q1 p K0.q.n C K0.q.L K0.q.S)) z0 = V := ⟨_, rfl⟩
  have kc := case_call K0 t ta.1 ta.2 (gre Q1 p K0.q.n C K0.q.L K0.q.S) z0 (show (1 : Int) ≠ 3 by decide) _ (mo.below hZ) (ao.below hZ) ⟨u1, hA.wL, hA.t.below hZ, hA.te, hA.tl⟩ Td Vd Ed e2d e3d e1d
  refine wp_region_list ?_
  refine wpList_load_row rfl 34 (.tmp 5) rfl g5 rfl 34 _ (0,0) _ (q5.kept hZ) Tryz.underlying34 rfl rfl ?_
  refine wpList_load_row rfl 37 (.tmp 6) rfl (g5 + 1) rfl 37 _ (0,0) _ (q6.kept hZ) Tryz.underlying37 rfl rfl ?_
  refine wpList_load_row rfl 28 (.tmp 9) rfl h rfl 28 _ (0,0) _ qH Tryz.underlying28 rfl rfl ?_
  go_upto_region 16 with (go_at_call 9; refine kc.mono ?_; rintro e Zd ⟨⟨tad, tcd, vad, vcd, rfl, rTd, rVd, -⟩, h'⟩; clear kc; replace qG := qG.kept h'; replace qH := qH.kept h'; replace hZ := below_then hZ h'; replace rTc := rTc.below h'; clear h')
  have es := gre_same K0 t ta.1 (K0.q.with p C) Q1 p K0.q.n C K0.q.L K0.q.S z0
  obtain rfl : Ec = Ed := e1c.symm.trans (es.1.symm.trans e1d)
  obtain rfl : Tc = Td := e2c.symm.trans (es.2.symm.trans e2d)
  have EE : (Ec == Ec) = true := by simp
  clear es e1c e1d e2c e2d e3c e3d
  replace hb := below_then hb hZ
  go_wp2_with (go_at_call 14; refine (same_ints tac _ tcc Tc tad _ tcd _ rTc rTd).mono ?_; rintro e Zt ⟨rfl, h'⟩; replace hb := below_then hb h'; clear h' rVc rVd rTc rTd)
  go_ret
  exact ⟨rfl, hb⟩

set_option maxRecDepth 100000 in
theorem contract (H : Type) (enc : TypeId × Value → H) (W : World) (base : Nat) (args : Array Value) (ds gs : List (DataW H)) (before : List MemPlace)
    (hval0 : ∀ (j : Nat) t v, Tryz.f7.params[j]? = some t → args[j]? = some v → Value.okWide Tryz.prog W .any base t v)
    (hW : DataW.Whole enc Tryz.prog Tryz.f7.params.toList Rows.genFieldsSpec.vars false W args.toList ds gs before) :
    Calls Tryz.prog 7 args W fun e W' => ∃ v, e = .returned v ∧ Rows.genFieldsSpec.post enc Tryz.prog Tryz.f7 false true false false W args v W' := by
  have hval : ∀ (j : Nat) t v, Tryz.f7.params[j]? = some t → args[j]? = some v → Value.okWide Tryz.prog W .any base t v := hval0
  have hW' := hW
  obtain ⟨p, q, hA0, hV, rfl, hfz, hnd⟩ := hW
  have hA : DataW.TrodAll enc Tryz.prog W 0 (fun _ => true) true Tryz.f7.params.toList args.toList ds p := hA0
  rw [Tryz.params7] at hA hval
  obtain ⟨v0, vs0, d0, ds0, p0, q0, hargs, rfl, rfl, h0, r0⟩ := trodAll_cons hA
  obtain ⟨v1, vs1, d1, ds1, p1, q1, rfl, rfl, rfl, h1, r1⟩ := trodAll_cons r0
  obtain ⟨rfl, rfl, rfl⟩ := trodAll_nil r1
  obtain rfl : args = #[v0, v1] := by cases args; simp_all
  obtain ⟨rfl, rfl⟩ := trodVars_none hV
  have k0 := h0
  have lt0 : ∀ x ∈ p0, x.block < W.heap.size := by obtain ⟨m, hm⟩ := k0; exact DataW.trod_lt m _ _ _ hm
  obtain ⟨K0, z0, rfl, w0⟩ := open_kg (hval 0 30 v0 rfl rfl) h0
  have k1 := h1
  have lt1 : ∀ x ∈ p1, x.block < W.heap.size := by obtain ⟨m, hm⟩ := k1; exact DataW.trod_lt m _ _ _ hm
  obtain ⟨Q1, z1, rfl, w1⟩ := open_ask (hval 1 28 v1 rfl rfl) h1
  clear hA0 hval0
  refine (walk K0 z0 Q1 z1 W w0 w1).mono fun e W' ⟨he, bel⟩ => ?_
  subst he
  exact ⟨_, rfl, _, _, _, [], _, [], hW', trodAll_mk1 (shut_bool Tryz.underlying4 _), (trodAll_cons_mk (Below.trod laidOut (by kernel_rfl) (of_decide_eq_true (by kernel_rfl)) k0 bel lt0) (trodAll_cons_mk (Below.trod laidOut (by kernel_rfl) (of_decide_eq_true (by kernel_rfl)) k1 bel lt1) trodAll_mk0)), rfl, bel.frame _, fun h => by cases h⟩

set_option maxRecDepth 100000 in
theorem lifted (os : Os) (started : os.Started) (H : Type) (enc : TypeId × Value → H) :
    ReturnsInHanded {} Tryz.checked os 7 .any (Rows.genFieldsSpec.pre6 enc Tryz.prog Tryz.f7 Rows.genFieldsRow.domain false) (Rows.genFieldsSpec.post enc Tryz.prog Tryz.f7 false true false false) := by
  refine returnsInHanded_of_change (C := Tryz.checked) own started (by kernel_rfl) Tryz.func7
    (ChangeSpec.witness6 (enc := enc) (C := Tryz.checked) false ⟨#[], #[.agg #[.int .i64 0, .int .i64 0, .int .i64 0, .int .i64 0, .int .i64 0, .int .i64 0, .int .i64 0, .int .i64 0, .int .u64 0, .int .i64 0, .int .i64 0, .slice none 0 0, .int .i64 0, .int .i64 0, .int .u64 0, .int .i64 0, .float .f64 0, .int .i64 0, .int .i64 0], .agg #[.int .i64 0, .slice none 0 0, .int .i64 0, .int .i64 0, .int .u64 0, .int .i64 0, .float .f64 0, .int .i64 0, .int .i64 0]], []⟩ 8 (by kernel_rfl) (by kernel_rfl) (by kernel_rfl) (by kernel_rfl)) ?_
  intro W base args ds gs before hval hW _ _
  exact contract H enc W base args ds gs before hval hW

theorem over : Rows.genFieldsRow.holds Tryz.pinned (OpenSpec.ofChange Rows.genFieldsSpec) :=
  OpenClaim.holds_of_wide 7 Tryz.f7 rfl rfl rfl rfl rfl rfl rfl ⟨rfl, rfl, rfl, rfl, rfl⟩ rfl rfl rfl rfl rfl (by kernel_rfl) Tryz.func7 (by kernel_rfl)
    (of_decide_eq_true (by kernel_rfl)) (by unfold Func.isWrapper; first | (rw [if_pos (by decide +kernel)]; kernel_rfl) | (rw [if_neg (by decide +kernel)]; exact ⟨rfl, rfl⟩))
    (fun os started H enc _ => lifted os started H enc)

theorem proved : Rows.GenFieldsSaid :=
  over
#print axioms proved
end Go.Proofs.YtbkjhfmehemgpaaGreat.genFields

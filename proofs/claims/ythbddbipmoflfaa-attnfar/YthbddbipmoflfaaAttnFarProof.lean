/- The examples come out as they should, and for up to fifty keys and values of at most eight numbers each, of which the first number of each key is near to nought, a key more whose first number lies a thousand below, put in at any place with any value, changes nothing in what one head answers. -/
import Derived.Test.YthbddbipmoflfaaRows
import Derived.Test.YthbddbipmoflfaaView
import Derived.Test.YthbddbipmoflfaaOwn
import Derived.Test.YthbddbipmoflfaaSteps
import Derived.Test.YthbddbipmoflfaaSame
import Derived.Test.YthbddbipmoflfaaWhere
import Derived.Test.YthbddbipmoflfaaWorks
import Derived.Test.YthbddbipmoflfaaSoft
import Derived.Test.YthbddbipmoflfaaMean
import Derived.Test.YthbddbipmoflfaaGrids
import Derived.Test.YthbddbipmoflfaaOpen
import Derived.Test.YthbddbipmoflfaaAtPlain
import Derived.Test.YthbddbipmoflfaaAtFits
import Derived.Test.YthbddbipmoflfaaAtFitsNo
import Derived.Test.YthbddbipmoflfaaAtHead
import Derived.Test.YthbddbipmoflfaaAtWorks
import Derived.Test.YthbddbipmoflfaaInvIn
import Derived.Test.YthbddbipmoflfaaAtReg
import Derived.Test.YthbddbipmoflfaaAtTwo
import Derived.Test.YthbddbipmoflfaaAtFarR
import Derived.Test.YthbddbipmoflfaaAtChain
import Derived.Test.YthbddbipmoflfaaAtChains
import Derived.Test.YthbddbipmoflfaaAtFarZ
import Derived.Test.YthbddbipmoflfaaAtFarK
import Derived.WalkKit
import Derived.ProofKit
import Derived.OpenShut
import Derived.ChangeOld
import Derived.Below
import Derived.WalkLawsBesides
import Derived.ChangeMaps5
import Derived.SizedLaws
namespace Go.Proofs.Ythbddbipmoflfaa.attnFar
open Go.ChangeShapes Go.WideShapes Go.ChangeAt Go.RowKit
set_option linter.unusedVariables false
set_option linter.unusedSimpArgs false

theorem own : ownKnob Try.prog.godebug = none := by kernel_rfl
theorem laidOut : laidOutB Try.prog = true := by kernel_rfl
theorem bytes2 : Try.prog.bytesOf 2 = 8 := by kernel_rfl

def keyZ (R : Nat → List Int) (r : Nat) : List Int := (R r).set 0 (((R r).getD 0 0).tmod 65536)

theorem keyZ_first (R : Nat → List Int) (r n : Nat) (h : (R r).length = n) (hn : 0 < n) : -65536 ≤ (keyZ R r).getD 0 0 ∧ (keyZ R r).getD 0 0 ≤ 65536 := by
  unfold keyZ
  rw [set_first h hn _ 0 hn, if_pos rfl]
  have := rest16 ((R r).getD 0 0)
  omega


set_option maxHeartbeats 8000000 in
set_option maxRecDepth 100000 in
theorem walk (a0 : Option Addr) (n0 c0 : Nat) (A0 : Nat → Option Addr) (C0 : Nat → Nat) (R0 : Nat → List Int) (a1 : Option Addr) (n1 c1 : Nat) (A1 : Nat → Option Addr) (C1 : Nat → Nat) (R1 : Nat → List Int) (a2 : Option Addr) (n2 c2 : Nat) (z2 : List Int) (a3 : Int) (w : World) (w0 : Grid w a0 n0 A0 C0 R0) (e0 : ∀ r, r < n0 → (A0 r = none → C0 r = 0) ∧ (R0 r).length ≤ C0 r) (l0 : n0 ≤ c0) (f0 : a0 = none → c0 = 0) (w1 : Grid w a1 n1 A1 C1 R1) (e1 : ∀ r, r < n1 → (A1 r = none → C1 r = 0) ∧ (R1 r).length ≤ C1 r) (l1 : n1 ≤ c1) (f1 : a1 = none → c1 = 0) (w2 : Reads .i64 w a2 n2 z2) (e2 : a2 = none → c2 = 0) (l2 : n2 ≤ c2) (w3 : (Lit.int .i64 a3).wf = true) (b0 : n0 * 24 ≤ 140737488351232) (g0 : ∀ r, r < n0 → (R0 r).length * 8 ≤ 140737488351232) (b1 : n1 * 24 ≤ 140737488351232) (g1 : ∀ r, r < n1 → (R1 r).length * 8 ≤ 140737488351232) (b2 : n2 * 8 ≤ 140737488351232) :
    Calls Try.prog 8 #[.slice a0 n0 c0, .slice a1 n1 c1, .slice a2 n2 c2, .int .i64 a3] w fun e w' => e = .returned (.bool true) ∧ Below w.heap.size w w' := by
  obtain ⟨i0, hi, hz0, hz1, hz2⟩ := info_parts info2
  have kw := works_call w
  have hm := w0.max
  have hm1 := w1.max
  have hm2 := w2.max
  by_cases q1 : n0 = 0
  case pos =>
    subst q1
    go_enter Try.func8, Try.ntmps8
    go_wp2_with (go_at_call 17; refine kw.mono ?_; rintro e W1 ⟨rfl, hb⟩; clear kw)
    go_ret
    exact ⟨rfl, hb⟩
  have zn : ((n0 : Int) == 0) = false := by simp; omega
  by_cases q2 : 50 < n0
  case pos =>
    go_enter Try.func8, Try.ntmps8
    go_wp2_with (go_at_call 17; refine kw.mono ?_; rintro e W1 ⟨rfl, hb⟩; clear kw)
    go_ret
    exact ⟨rfl, hb⟩
  by_cases q3 : n0 = n1
  case neg =>
    have z3 : ((n0 : Int) == (n1 : Int)) = false := by simp; omega
    go_enter Try.func8, Try.ntmps8
    go_wp2_with (go_at_call 17; refine kw.mono ?_; rintro e W1 ⟨rfl, hb⟩; clear kw)
    go_ret
    exact ⟨rfl, hb⟩
  subst q3
  by_cases q4 : n2 = 0
  case pos =>
    subst q4
    go_enter Try.func8, Try.ntmps8
    go_wp2_with (go_at_call 17; refine kw.mono ?_; rintro e W1 ⟨rfl, hb⟩; clear kw)
    go_ret
    exact ⟨rfl, hb⟩
  have z4 : ((n2 : Int) == 0) = false := by simp; omega
  obtain ⟨x0, rfl⟩ := w0.some_ (by omega)
  obtain ⟨x1, rfl⟩ := w1.some_ (by omega)
  obtain ⟨x2, rfl⟩ := w2.some_ (by omega)
  go_enter Try.func8, Try.ntmps8
  go_wp2_with (first
    | (go_at_call 17; refine kw.mono ?_; rintro e W1 ⟨rfl, hb⟩; clear kw)
    | (at_make; refine wpList_make_full _ rfl (.tmp 47) (.tmp 47) 22 rfl w.heap.size 2 i0 (.int .i64 0) 1 Try.underlying22 hi hz0 hz1 .i64 .i64 _ _ n2 rfl rfl rfl rfl (by rw [hz2]; omega) (by unfold maxLen; omega) hb.size ?_; intro wq hown hgrow
       have bq : Below w.heap.size w wq := hb.grown hgrow hb.size (fun k h => by cases h)
       obtain ⟨rq, cq, fq⟩ := made_first (u := 65536) hown (by omega) (by omega) (by decide)
       have bb : Below w.heap.size w (wq.setCell ⟨W1.heap.size, 0, none⟩ (.int .i64 65536)) := bq.setCell (p := ⟨W1.heap.size, 0, none⟩) hb.size _
       clear hown hgrow))
  obtain ⟨Wb, eWb⟩ : ∃ Wb, wq.setCell ⟨W1.heap.size, 0, none⟩ (.int .i64 65536) = Wb := ⟨_, rfl⟩
  obtain ⟨gq, egq⟩ : ∃ gq, W1.heap.size = gq := ⟨_, rfl⟩
  rw [eWb] at rq bb ⊢
  rw [egq] at rq ⊢
  clear eWb egq cq fq bq hb
  have g0' := w0.below bb
  have g1' := w1.below bb
  have g2' := w2.below bb
  go_loopw [11, 12, 13] (fun v11 v12 i wr => ∃ k : Nat, k ≤ n0 ∧ i = .int .i64 k ∧ Below Wb.heap.size Wb wr ∧ (∀ r, r < k → (R0 r).length = n2 ∧ (R1 r).length = n2) ∧ (0 < k → n2 ≤ 8) ∧ ∃ A C, Kg Wb.heap.size wr v11 v12 n2 k A C (keyZ R0) A1 C1) (fun _ _ i _ => n0 - (intOf i).toNat)
  case atStart => exact ⟨0, Nat.zero_le _, rfl, Below.refl _ _, fun r h => by omega, fun h => by omega, fun _ => none, fun _ => 0, Kg.nil _ _ _ _ _ _ _ _⟩
  case round =>
    obtain ⟨k, hk, rfl, hbr, hl, h8, A, C, kg⟩ := hrel
    by_cases hlt : k < n0
    · have cr := (g0'.below hbr).cell x0 rfl k hlt
      have cr1 := (g1'.below hbr).cell x1 rfl k hlt
      have cv := g1'.cell x1 rfl k hlt
      have rk := (g0'.below hbr).row k hlt
      by_cases m1 : (R0 k).length = n2
      case neg =>
        obtain ⟨g, eg⟩ : ∃ g, (R0 k).length = g := ⟨_, rfl⟩
        rw [eg] at m1 cr
        have zg : ((g : Int) == (n2 : Int)) = false := by simp; omega
        have bw := below_then bb hbr
        clear eg cv rk cr1 kg
        go_wp2
        go_ret
        exact ⟨rfl, bw⟩
      by_cases m2 : (R1 k).length = n2
      case neg =>
        rw [m1] at cr
        obtain ⟨g, eg⟩ : ∃ g, (R1 k).length = g := ⟨_, rfl⟩
        rw [eg] at m2 cr1
        have zg : ((g : Int) == (n2 : Int)) = false := by simp; omega
        have bw := below_then bb hbr
        clear eg cv rk kg
        go_wp2
        go_ret
        exact ⟨rfl, bw⟩
      by_cases m3 : 8 < n2
      case pos =>
        rw [m1] at cr
        rw [m2] at cr1
        have bw := below_then bb hbr
        clear cv rk kg
        go_wp2
        go_ret
        exact ⟨rfl, bw⟩
      rw [m1] at cr rk
      rw [m2] at cr1 cv
      have ek := (e0 k hlt).1
      have cx := fun o => ((g0'.below hbr).below (below_new (Below.refl _ _) o)).cell x0 rfl k hlt
      rw [m1] at cx
      have hltv : k < n0 := hlt
      have Fin : Hid (∀ r, r < k + 1 → (R0 r).length = n2 ∧ (R1 r).length = n2) := fun r hr => by
        by_cases e : r = k
        · subst e; exact ⟨m1, m2⟩
        · exact hl r (by omega)
      have wz := rk.wf_mem
      have lz := rk.len
      have eK : keyZ R0 k = (R0 k).set 0 (((R0 k).getD 0 0).tmod 65536) := rfl
      have bz := rest16 ((R0 k).getD 0 0)
      obtain ⟨X, eX⟩ : ∃ X, (R0 k).getD 0 0 = X := ⟨_, rfl⟩
      rw [eX] at bz eK
      obtain ⟨Z, eZ⟩ : ∃ Z, X.tmod 65536 = Z := ⟨_, rfl⟩
      rw [eZ] at bz eK
      have wZ : (Lit.int .i64 Z).wf = true := WalkArith.wf_i64 ⟨by omega, by omega⟩
      have EK : Hid (keyZ R0 k = (R0 k).set 0 Z) := eK
      have EX : Hid ((R0 k).getD 0 0 = X) := eX
      clear eK eX hl m1 m2
      go_wp2_with (first
        | (at_builtin; refine wpList_copy rfl (.tmp 77) (.tmp 81) 22 rfl wr.heap.size 2 i0 (.int .i64 0) 8 Try.underlying22 hi hz0 hz1 hz2 rfl _ 0 [] rfl (World.ownsRow_lit _ #[] 0 (Nat.le_refl _) (by decide) rfl) .i64 (A0 k) n2 (C0 k) (R0 k) rfl (rk.below (below_new (Below.refl _ _) _)) ek (by unfold maxLen; omega) (by omega) (below_new (Below.refl _ _) _).size ?_; intro v1 W5 ho1 hg1
           obtain ⟨g, cap, rfl, hg, b5, c5, f5, s5⟩ := copied_own _ (by omega) wz lz ho1 hg1
           rw [EX.out] at c5
           obtain ⟨r5, bs5⟩ := s5 Z wZ
           clear ho1 hg1 s5))
      obtain ⟨W2, eW2⟩ : ∃ W2, W5.setCell ⟨g, 0, none⟩ (.int .i64 Z) = W2 := ⟨_, rfl⟩
      rw [eW2] at r5 bs5 ⊢
      clear eW2 c5 f5 b5
      have kg2 := kg.below bs5
      have bW2 := below_then hbr bs5
      have gap : (∀ {v : Value} {n : Nat} {xs : List Value}, wr.ownsRow Wb.heap.size 22 1 v n xs → v.ownBlock ≠ some g) := fun h e => by have := (h.lt g e).2; omega
      have hga := gap kg.o1
      have hgb := gap kg.o2
      clear kg gap
      refine pf_region x1 n0 c1 k n2 cap n2 (C1 k) (some ⟨g, 0, none⟩) (A1 k) _ _ Wb.heap.size Wb k k _ _ (by kernel_rfl) rfl ⟨_, rfl, rfl, rfl, rfl, by kernel_rfl⟩ ⟨_, rfl, rfl, rfl, rfl, by kernel_rfl⟩ ⟨_, rfl, rfl, rfl, rfl, by kernel_rfl⟩ ⟨_, rfl, rfl, rfl, rfl, by kernel_rfl⟩ ⟨_, rfl, rfl, rfl, rfl, by kernel_rfl⟩ ⟨_, rfl, rfl, rfl, rfl, by kernel_rfl⟩ ⟨_, rfl, rfl, rfl, rfl, by kernel_rfl⟩ ⟨_, rfl, rfl, rfl, rfl, by kernel_rfl⟩ ⟨_, rfl, rfl, rfl, rfl, by kernel_rfl⟩ ⟨_, rfl, rfl, rfl, rfl, by kernel_rfl⟩ ⟨_, rfl, rfl, rfl, rfl, by kernel_rfl⟩ ⟨_, rfl, rfl, rfl, rfl, by kernel_rfl⟩ ⟨_, rfl, rfl, rfl, rfl, by kernel_rfl⟩ bW2 bW2.size ⟨kg2.o1, kg2.o2, kg2.ap⟩ (by omega) (by omega) (run_ix23 _ _ _ _ hltv) (fun W hb => run_load22 ((hb.cell (World.block_lt_of_cell? Wb _ cv)).trans cv)) rfl rfl rfl rfl rfl (Nat.le_of_ble_eq_true rfl) ?_
      intro af W9f pf1 pf2 hsf hdf hkpf hB9f hQ9f hS1f hS2f hT9f er1f er2f
      have epf := frame_puts [89, 90, 91, 92, 93, 94, 95, 96, 97, 98, 99, 11, 12] hsf hdf (fun s h => hkpf s (fun i hi e => h (by
        rcases (show i = 0 ∨ i = 1 ∨ i = 2 ∨ i = 3 ∨ i = 4 ∨ i = 5 ∨ i = 6 ∨ i = 7 ∨ i = 8 ∨ i = 9 ∨ i = 10 ∨ i = 11 ∨ i = 12 by omega) with rfl | rfl | rfl | rfl | rfl | rfl | rfl | rfl | rfl | rfl | rfl | rfl | rfl <;> (simp only [pfD, Option.some.injEq] at e; subst e; simp))))
      simp only [List.foldl] at epf
      rw [er1f, er2f] at epf
      clear hsf hdf hkpf er1f er2f
      generalize af.tmps.getD 89 undef = gf89 at epf
      generalize af.tmps.getD 90 undef = gf90 at epf
      generalize af.tmps.getD 91 undef = gf91 at epf
      generalize af.tmps.getD 92 undef = gf92 at epf
      generalize af.tmps.getD 93 undef = gf93 at epf
      generalize af.tmps.getD 94 undef = gf94 at epf
      generalize af.tmps.getD 95 undef = gf95 at epf
      generalize af.tmps.getD 96 undef = gf96 at epf
      generalize af.tmps.getD 97 undef = gf97 at epf
      generalize af.tmps.getD 98 undef = gf98 at epf
      generalize af.tmps.getD 99 undef = gf99 at epf
      simp only [Act.put, List.setIfInBounds_toArray, List.set_cons_succ, List.set_cons_zero] at epf
      subst epf
      have Kf : Hid (∃ A C, Kg Wb.heap.size W9f pf1 pf2 n2 (k + 1) A C (keyZ R0) A1 C1) := ⟨_, _, kg2.step (by omega) (by rw [EK.out]; exact r5) ⟨hga, hgb⟩ hQ9f hS1f hS2f hT9f⟩
      clear kg2 hga hgb hQ9f hS1f hS2f hT9f r5
      go_wp2
      go_roundw
      case rel => exact ⟨k + 1, by omega, by go_num, hB9f, Fin.out, fun _ => by omega, Kf.out⟩
      case measure => simp [intOf]; omega
    · have e : k = n0 := by omega
      subst e
      have h8' : n2 ≤ 8 := h8 (by omega)
      have hk0 : 0 < k := by omega
      have vr : ∀ r, r < k → Reads .i64 wr (A1 r) n2 (R1 r) := fun r h => by have := (g1'.below hbr).row r h; rwa [(hl r h).2] at this
      have kr : ∀ r, r < k → Reads .i64 wr (A r) n2 (keyZ R0 r) := fun r h => (kg.rows r h).1
      obtain ⟨xk, ck, rfl, hck, GK, cellsK⟩ := own_grid kg.o1 hk0 kr
      obtain ⟨xv, cv2, rfl, hcv, GV, cellsV⟩ := own_grid kg.o2 hk0 vr
      clear kg
      have hrr : ∀ r, r < k → (keyZ R0 r).length = n2 ∧ (R1 r).length = n2 := fun r h => ⟨(kr r h).len, (vr r h).len⟩
      have kz : ∀ r, r < k → -65536 ≤ (keyZ R0 r).getD 0 0 ∧ (keyZ R0 r).getD 0 0 ≤ 65536 := fun r h => keyZ_first R0 r n2 (hl r h).1 (by omega)
      obtain ⟨N1, eN⟩ : ∃ N1 : Nat, k + 1 = N1 := ⟨_, rfl⟩
      obtain ⟨M, hM, eM, eM'⟩ := restN a3 N1 (by omega)
      have eN' : (k : Int) + 1 = (N1 : Int) := by omega
      have wN : IntKind.u64.wrap (N1 : Int) = (N1 : Int) := by rw [IntKind.wrap_u64]; omega
      have zN : ((N1 : Int) == 0) = false := by simp; omega
      have hMk : M ≤ k := by omega
      obtain ⟨Xk, rk1, tkl, dkl, cK1, cK3, tko, dko⟩ := chain_facts (M := M) cellsK hMk hck
      obtain ⟨Xv, rv1, tvl, dvl, cV1, cV3, tvo, dvo⟩ := chain_facts (M := M) cellsV hMk hcv
      have rq' := rq.below hbr
      have rz' := g2'.below hbr
      have kh1 := fun (W : World) (hb : Below wr.heap.size wr W) => head_yes (some ⟨gq, 0, none⟩) n2 n2 (firstZ 65536 n2) (some xk) k ck A C (keyZ R0) (some xv) cv2 A1 C1 R1 W (rq'.below hb) (GK.below hb) (GV.below hb) (by omega) hk0 hrr (by omega) (by omega)
      have hfar := head_far (keyZ R0) R1 z2 n2 k M (by omega) h8' hk0 hMk kz
      have kh2 := fun (W : World) (hb : Below wr.heap.size wr W) (rf : Reads .i64 W (some ⟨wr.heap.size, 0, none⟩) n2 (firstZ (-67108864) n2)) xa ca xb cb (G1 : Grid W (some xa) (k + 1) (ins A M (some ⟨wr.heap.size, 0, none⟩)) (ins C M n2) (ins (keyZ R0) M (firstZ (-67108864) n2))) (G2 : Grid W (some xb) (k + 1) (ins A1 M (some x2)) (ins C1 M c2) (ins R1 M z2)) =>
        head_yes (some ⟨gq, 0, none⟩) n2 n2 (firstZ 65536 n2) (some xa) (k + 1) ca _ _ _ (some xb) cb _ _ _ W (rq'.below hb) G1 G2 (by omega) (by omega) (ins_all (fun (x y : List Int) => x.length = n2 ∧ y.length = n2) hMk hrr ⟨first_length _ _, w2.len⟩) (by omega) (by omega)
      simp only [hfar] at kh2
      obtain ⟨O, eO⟩ : ∃ O, headZ (firstZ 65536 n2) (keyZ R0) R1 n2 k = O := ⟨_, rfl⟩
      simp only [eO] at kh1 kh2
      clear eO hfar kz hrr GK GV cellsK cellsV hl h8 rq g0' g1' g2'
      have hsz := hbr.size
      go_wp2_with (first
        | (at_make; refine wpList_make_full _ rfl (.tmp 100) (.tmp 100) 22 rfl wr.heap.size 2 i0 (.int .i64 0) 1 Try.underlying22 hi hz0 hz1 .i64 .i64 _ _ n2 rfl rfl rfl rfl (by rw [hz2]; omega) (by unfold maxLen; omega) (Nat.le_refl _) ?_; intro wf hown hgrow
           have bf : Below wr.heap.size wr wf := (Below.refl _ _).grown hgrow (Nat.le_refl _) (fun k h => by cases h)
           obtain ⟨rf, cf, ff⟩ := made_first (u := -67108864) hown (by omega) (by omega) (by decide)
           have bf2 : Below wr.heap.size wr (wf.setCell ⟨wr.heap.size, 0, none⟩ (.int .i64 (-67108864))) := bf.setCell (p := ⟨wr.heap.size, 0, none⟩) (Nat.le_refl _) _
           clear hown hgrow bf)
        | (go_at_call 9; refine (kh1 _ bf2).mono ?_; rintro e W3 ⟨⟨p3, q3, rfl, r3, -⟩, d3⟩; have bW3 := below_then bf2 d3; replace rf := rf.below d3; clear kh1 d3 bf2 cf ff))
      refine ck_region xk Xk k ck M n2 n2 (some ⟨wr.heap.size, 0, none⟩) W3.heap.size W3 ((rowsC A C n2 k).take M) ((rowsC A C n2 k).drop M) (by kernel_rfl) rfl ⟨_, rfl, rfl, rfl, rfl, by kernel_rfl⟩ ⟨_, rfl, rfl, rfl, rfl, by kernel_rfl⟩ ⟨_, rfl, rfl, rfl, rfl, by kernel_rfl⟩ ⟨_, rfl, rfl, rfl, rfl, by kernel_rfl⟩ ⟨_, rfl, rfl, rfl, rfl, by kernel_rfl⟩ ⟨_, rfl, rfl, rfl, rfl, by kernel_rfl⟩ ⟨_, rfl, rfl, rfl, rfl, by kernel_rfl⟩ ⟨_, rfl, rfl, rfl, rfl, by kernel_rfl⟩ ⟨_, rfl, rfl, rfl, rfl, by kernel_rfl⟩ ⟨_, rfl, rfl, rfl, rfl, by kernel_rfl⟩ ⟨_, rfl, rfl, rfl, rfl, by kernel_rfl⟩ ⟨_, rfl, rfl, rfl, rfl, by kernel_rfl⟩ ⟨_, rfl, rfl, rfl, rfl, by kernel_rfl⟩ (Below.refl _ _) (Nat.le_refl _) (run_front23 _ _ _ _ (by omega)) rk1 tkl dkl (fun w hb => cK1 w (below_then bW3 hb)) (fun w hb => cK3 w (below_then bW3 hb)) tko dko (by omega) (by omega) rfl rfl rfl (Nat.le_of_ble_eq_true rfl) ?_
      intro ak W9k v9k hsk hdk hkpk hB9k hO9k erk
      have epk := frame_puts [119, 120, 121, 122, 123, 124, 125, 126, 127, 128, 129, 130, 19] hsk hdk (fun s h => hkpk s (fun i hi e => h (by
        rcases (show i = 0 ∨ i = 1 ∨ i = 2 ∨ i = 3 ∨ i = 4 ∨ i = 5 ∨ i = 6 ∨ i = 7 ∨ i = 8 ∨ i = 9 ∨ i = 10 ∨ i = 11 ∨ i = 12 by omega) with rfl | rfl | rfl | rfl | rfl | rfl | rfl | rfl | rfl | rfl | rfl | rfl | rfl <;> (simp only [ckD, Option.some.injEq] at e; subst e; simp))))
      simp only [List.foldl] at epk
      rw [erk] at epk
      clear hsk hdk hkpk erk
      generalize ak.tmps.getD 119 undef = gk119 at epk
      generalize ak.tmps.getD 120 undef = gk120 at epk
      generalize ak.tmps.getD 121 undef = gk121 at epk
      generalize ak.tmps.getD 122 undef = gk122 at epk
      generalize ak.tmps.getD 123 undef = gk123 at epk
      generalize ak.tmps.getD 124 undef = gk124 at epk
      generalize ak.tmps.getD 125 undef = gk125 at epk
      generalize ak.tmps.getD 126 undef = gk126 at epk
      generalize ak.tmps.getD 127 undef = gk127 at epk
      generalize ak.tmps.getD 128 undef = gk128 at epk
      generalize ak.tmps.getD 129 undef = gk129 at epk
      generalize ak.tmps.getD 130 undef = gk130 at epk
      simp only [Act.put, List.setIfInBounds_toArray, List.set_cons_succ, List.set_cons_zero] at epk
      subst epk
      have bWk := below_then bW3 hB9k
      replace rf := rf.below hB9k
      replace r3 := r3.below hB9k
      have hO1 : W9k.ownsRow W3.heap.size 22 1 v9k (k + 1) (rowsC (ins A M (some ⟨wr.heap.size, 0, none⟩)) (ins C M n2) n2 (k + 1)) := by
        rw [← rowsC_ins A C n2 k M hMk, show k + 1 = M + 1 + (k - M) by omega]
        exact hO9k
      clear hO9k hB9k rk1 tkl dkl cK1 cK3 tko dko
      go_wp2
      refine cv_region xv Xv k cv2 M n2 c2 (some x2) W9k.heap.size W9k ((rowsC A1 C1 n2 k).take M) ((rowsC A1 C1 n2 k).drop M) (by kernel_rfl) rfl ⟨_, rfl, rfl, rfl, rfl, by kernel_rfl⟩ ⟨_, rfl, rfl, rfl, rfl, by kernel_rfl⟩ ⟨_, rfl, rfl, rfl, rfl, by kernel_rfl⟩ ⟨_, rfl, rfl, rfl, rfl, by kernel_rfl⟩ ⟨_, rfl, rfl, rfl, rfl, by kernel_rfl⟩ ⟨_, rfl, rfl, rfl, rfl, by kernel_rfl⟩ ⟨_, rfl, rfl, rfl, rfl, by kernel_rfl⟩ ⟨_, rfl, rfl, rfl, rfl, by kernel_rfl⟩ ⟨_, rfl, rfl, rfl, rfl, by kernel_rfl⟩ ⟨_, rfl, rfl, rfl, rfl, by kernel_rfl⟩ ⟨_, rfl, rfl, rfl, rfl, by kernel_rfl⟩ ⟨_, rfl, rfl, rfl, rfl, by kernel_rfl⟩ ⟨_, rfl, rfl, rfl, rfl, by kernel_rfl⟩ (Below.refl _ _) (Nat.le_refl _) (run_front23 _ _ _ _ (by omega)) rv1 tvl dvl (fun w hb => cV1 w (below_then bWk hb)) (fun w hb => cV3 w (below_then bWk hb)) tvo dvo (by omega) (by omega) rfl rfl rfl (Nat.le_of_ble_eq_true rfl) ?_
      intro av W9v v9v hsv hdv hkpv hB9v hO9v erv
      have epv := frame_puts [131, 132, 133, 134, 135, 136, 137, 138, 139, 140, 141, 142, 20] hsv hdv (fun s h => hkpv s (fun i hi e => h (by
        rcases (show i = 0 ∨ i = 1 ∨ i = 2 ∨ i = 3 ∨ i = 4 ∨ i = 5 ∨ i = 6 ∨ i = 7 ∨ i = 8 ∨ i = 9 ∨ i = 10 ∨ i = 11 ∨ i = 12 by omega) with rfl | rfl | rfl | rfl | rfl | rfl | rfl | rfl | rfl | rfl | rfl | rfl | rfl <;> (simp only [cvD, Option.some.injEq] at e; subst e; simp))))
      simp only [List.foldl] at epv
      rw [erv] at epv
      clear hsv hdv hkpv erv
      generalize av.tmps.getD 131 undef = gv131 at epv
      generalize av.tmps.getD 132 undef = gv132 at epv
      generalize av.tmps.getD 133 undef = gv133 at epv
      generalize av.tmps.getD 134 undef = gv134 at epv
      generalize av.tmps.getD 135 undef = gv135 at epv
      generalize av.tmps.getD 136 undef = gv136 at epv
      generalize av.tmps.getD 137 undef = gv137 at epv
      generalize av.tmps.getD 138 undef = gv138 at epv
      generalize av.tmps.getD 139 undef = gv139 at epv
      generalize av.tmps.getD 140 undef = gv140 at epv
      generalize av.tmps.getD 141 undef = gv141 at epv
      generalize av.tmps.getD 142 undef = gv142 at epv
      simp only [Act.put, List.setIfInBounds_toArray, List.set_cons_succ, List.set_cons_zero] at epv
      subst epv
      have bWv := below_then bWk hB9v
      replace rf := rf.below hB9v
      replace r3 := r3.below hB9v
      replace hO1 := own_below hO1 hB9v
      have hO2 : W9v.ownsRow W9k.heap.size 22 1 v9v (k + 1) (rowsC (ins A1 M (some x2)) (ins C1 M c2) n2 (k + 1)) := by
        rw [← rowsC_ins A1 C1 n2 k M hMk, show k + 1 = M + 1 + (k - M) by omega]
        exact hO9v
      clear hO9v hB9v rv1 tvl dvl cV1 cV3 tvo dvo
      obtain ⟨xa, ca, rfl, -, Ga, -⟩ := own_grid hO1 (by omega) (ins_all (fun a z => Reads .i64 W9v a n2 z) hMk (fun r h => (kr r h).below bWv) rf)
      obtain ⟨xb, cb, rfl, -, Gb, -⟩ := own_grid hO2 (by omega) (ins_all (fun a z => Reads .i64 W9v a n2 z) hMk (fun r h => (vr r h).below bWv) (rz'.below bWv))
      clear hO1 hO2 eN eN' eM eM' wN zN hM
      go_wp2_with (first
        | (go_at_call 9; refine (kh2 _ bWv rf xa ca xb cb Ga Gb).mono ?_; rintro e W4 ⟨⟨p4, q4, rfl, r4, -⟩, d4⟩; replace r3 := r3.below d4; have bW4 := below_then bWv d4; clear kh2 d4 Ga Gb rf bWv)
        | (go_at_call 14; refine (same_call _ _ _ O _ _ _ _ r3 r4).mono ?_; rintro e W6 ⟨rfl, hq⟩; have d6 := below_drew (Below.refl W4.heap.size W4) hq; have hbz := below_then bb (below_then hbr (below_then bW4 d6)); clear d6 hq r3 r4))
      go_ret
      exact ⟨by simp, hbz⟩

theorem contract (H : Type) (enc : TypeId × Value → H) (W : World) (base : Nat) (args : Array Value) (ds gs : List (DataW H)) (before : List MemPlace)
    (hval0 : ∀ (j : Nat) t v, Try.f8.params[j]? = some t → args[j]? = some v → Value.okWide Try.prog W .any base t v)
    (hW : DataW.Whole enc Try.prog Try.f8.params.toList Rows.attnFarSpec.vars false W args.toList ds gs before)
    (hsz0 : (DataW.weightsEach Try.prog (Try.f8.params.toList ++ Rows.attnFarSpec.plain.varTypes Try.prog) (ds ++ gs)).all (· ≤ reachBytes) = true) :
    Calls Try.prog 8 args W fun e W' => ∃ v, e = .returned v ∧ Rows.attnFarSpec.post enc Try.prog Try.f8 false true false false W args v W' := by
  have hval : ∀ (j : Nat) t v, Try.f8.params[j]? = some t → args[j]? = some v → Value.okWide Try.prog W .any base t v := hval0
  have hW' := hW
  obtain ⟨p, q, hA0, hV, rfl, hfz, hnd⟩ := hW
  have hA : DataW.TrodAll enc Try.prog W 0 (fun _ => true) true Try.f8.params.toList args.toList ds p := hA0
  have hsz : (DataW.weightsEach Try.prog (Try.f8.params.toList ++ Rows.attnFarSpec.plain.varTypes Try.prog) (ds ++ gs)).all (· ≤ reachBytes) = true := hsz0
  rw [Try.params8] at hA hval hsz
  obtain ⟨v0, vs0, d0, ds0, p0, q0, hargs, rfl, rfl, h0, r0⟩ := trodAll_cons hA
  obtain ⟨v1, vs1, d1, ds1, p1, q1, rfl, rfl, rfl, h1, r1⟩ := trodAll_cons r0
  obtain ⟨v2, vs2, d2, ds2, p2, q2, rfl, rfl, rfl, h2, r2⟩ := trodAll_cons r1
  obtain ⟨v3, vs3, d3, ds3, p3, q3, rfl, rfl, rfl, h3, r3⟩ := trodAll_cons r2
  obtain ⟨rfl, rfl, rfl⟩ := trodAll_nil r3
  obtain rfl : args = #[v0, v1, v2, v3] := by cases args; simp_all
  obtain ⟨rfl, rfl⟩ := trodVars_none hV
  obtain ⟨a0, n0, c0, rfl⟩ := okWide_slice Try.underlying23 (hval 0 23 v0 rfl rfl)
  have k0 := h0
  have lt0 : ∀ x ∈ p0, x.block < W.heap.size := by obtain ⟨m, hm⟩ := k0; exact DataW.trod_lt m _ _ _ hm
  obtain ⟨A0, C0, R0, w0, e0, l0, f0, s0⟩ := open_grid h0
  obtain ⟨b0, g0⟩ := s0 _ _ 0 hsz rfl rfl
  obtain ⟨a1, n1, c1, rfl⟩ := okWide_slice Try.underlying23 (hval 1 23 v1 rfl rfl)
  have k1 := h1
  have lt1 : ∀ x ∈ p1, x.block < W.heap.size := by obtain ⟨m, hm⟩ := k1; exact DataW.trod_lt m _ _ _ hm
  obtain ⟨A1, C1, R1, w1, e1, l1, f1, s1⟩ := open_grid h1
  obtain ⟨b1, g1⟩ := s1 _ _ 1 hsz rfl rfl
  obtain ⟨a2, n2, c2, rfl⟩ := okWide_slice Try.underlying22 (hval 2 22 v2 rfl rfl)
  have k2 := h2
  have lt2 : ∀ x ∈ p2, x.block < W.heap.size := by obtain ⟨m, hm⟩ := k2; exact DataW.trod_lt m _ _ _ hm
  obtain ⟨z2, w2, e2, l2, s2⟩ : ∃ zs, Reads .i64 W a2 n2 zs ∧ (a2 = none → c2 = 0) ∧ n2 ≤ c2 ∧ (n2 = 0 ∨ ∃ el sp, d2 = .slice el sp ∧ n2 ≤ el.length + sp.length) := by
    obtain ⟨fuel, hf⟩ := h2
    rcases open_ints Try.underlying22 Try.underlying2 (by kernel_rfl) hf with ⟨hcs, hd⟩ | ⟨x, l, c, zs, hcs, _, hl, hm, hz, hd, hcell, hwz⟩
    · simp [Value.cells] at hcs
      obtain ⟨rfl, rfl, rfl⟩ := hcs
      exact ⟨[], Reads.nil _ _, fun _ => rfl, Nat.le_refl _, .inl rfl⟩
    · simp [Value.cells] at hcs
      obtain ⟨rfl, rfl, rfl⟩ := hcs
      exact ⟨_, Reads.of_open hl hm (by simpa using hz) hcell hwz, (fun h => by cases h), hl, .inr ⟨_, _, congrArg Prod.fst hd, open_length (by simpa using hz) hl⟩⟩
  obtain ⟨a3, rfl, rfl, rfl, w3⟩ := open_int Try.underlying3 (hval 3 3 v3 rfl rfl) h3
  have b2 : n2 * 8 ≤ 140737488351232 := by
    rcases s2 with rfl | ⟨el, sp, rfl, hle⟩
    · decide
    · have := sized_slice hsz (j := 2) (t := 22) (e := 2) rfl rfl Try.underlying22
      rw [bytes2] at this
      simp only [reachBytes] at this
      omega
  clear hA0 hval0
  refine (walk a0 n0 c0 A0 C0 R0 a1 n1 c1 A1 C1 R1 a2 n2 c2 z2 a3 W w0 e0 l0 f0 w1 e1 l1 f1 w2 e2 l2 w3 b0 g0 b1 g1 b2).mono fun e W' ⟨he, bel⟩ => ?_
  subst he
  exact ⟨_, rfl, _, _, _, [], _, [], hW', trodAll_mk1 (shut_bool Try.underlying4 _), (trodAll_cons_mk (Below.trod laidOut (by kernel_rfl) (of_decide_eq_true (by kernel_rfl)) k0 bel lt0) (trodAll_cons_mk (Below.trod laidOut (by kernel_rfl) (of_decide_eq_true (by kernel_rfl)) k1 bel lt1) (trodAll_cons_mk (Below.trod laidOut (by kernel_rfl) (of_decide_eq_true (by kernel_rfl)) k2 bel lt2) (trodAll_cons_mk (shut_int Try.underlying3 w3) trodAll_mk0)))), rfl, bel.frame _, fun h => by cases h⟩

set_option maxRecDepth 100000 in
theorem lifted (os : Os) (started : os.Started) (H : Type) (enc : TypeId × Value → H) :
    ReturnsInHanded {} Try.checked os 8 .any (Rows.attnFarSpec.pre6 enc Try.prog Try.f8 Rows.attnFarRow.domain false) (Rows.attnFarSpec.post enc Try.prog Try.f8 false true false false) := by
  refine returnsInHanded_of_change_sized (C := Try.checked) own started (by kernel_rfl) Try.func8
    (ChangeSpec.witness6 (enc := enc) (C := Try.checked) false ⟨#[], #[.slice none 0 0, .slice none 0 0, .slice none 0 0, .int .i64 0], []⟩ 8 (by kernel_rfl) (by kernel_rfl) (by kernel_rfl) (by kernel_rfl)) ?_
  intro W base args ds gs before hval hW _ hsz _
  exact contract H enc W base args ds gs before hval hW hsz

theorem over : Rows.attnFarRow.holds Try.pinned (OpenSpec.ofChange Rows.attnFarSpec) :=
  OpenClaim.holds_of_wide 8 Try.f8 rfl rfl rfl rfl rfl rfl rfl ⟨rfl, rfl, rfl, rfl, rfl⟩ rfl rfl rfl rfl rfl (by kernel_rfl) Try.func8 (by kernel_rfl)
    (of_decide_eq_true (by kernel_rfl)) (by unfold Func.isWrapper; first | (rw [if_pos (by decide +kernel)]; kernel_rfl) | (rw [if_neg (by decide +kernel)]; exact ⟨rfl, rfl⟩))
    (fun os started H enc _ => lifted os started H enc)

theorem proved : Rows.AttnFarSaid :=
  over
#print axioms proved
end Go.Proofs.Ythbddbipmoflfaa.attnFar

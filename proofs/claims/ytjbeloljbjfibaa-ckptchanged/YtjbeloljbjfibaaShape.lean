/- Shape: the model of a right configuration and as many weights as there are. -/
import Derived.Test.YtjbeloljbjfibaaRows
import Derived.Test.YtjbeloljbjfibaaLayer8
import Derived.Test.YtjbeloljbjfibaaConf
import Derived.Test.YtjbeloljbjfibaaBlank
import Derived.Test.YtjbeloljbjfibaaCfgRef
import Derived.Test.YtjbeloljbjfibaaSize
import Derived.Test.YtjbeloljbjfibaaSizes
import Derived.Test.YtjbeloljbjfibaaSteps
import Derived.Test.YtjbeloljbjfibaaClo54
import Derived.Test.YtjbeloljbjfibaaFill
import Derived.Test.YtjbeloljbjfibaaMods
import Derived.Test.YtjbeloljbjfibaaV54
import Derived.Test.YtjbeloljbjfibaaFills
import Derived.WalkKit
import Derived.ProofKit
import Derived.OpenShut
import Derived.Below
import Derived.WalkLawsBesides
import Derived.Deep.QuietTactic
import Derived.BigQuiet
import Derived.Deep.RegionWith
import Derived.Deep.RegionHeld3
import Derived.Deep.OwnRows
import Derived.Deep.Slices
namespace Go.Proofs.Ytjbeloljbjfibaa
open Go.ChangeShapes Go.WideShapes Go.ChangeAt Go.RowKit
set_option linter.unusedVariables false


section
variable {ln ne D DD XD UD VD : Nat}

def perN (D DD XD UD ne : Nat) : Nat := D + DD + DD + DD + DD + D + XD + ne * (UD + UD)

theorem offs_lists (i : Nat) (hi : i < ln) : offs (planC ln ne D DD XD UD VD) (1 + i * pl ne + 7) = offs (planC ln ne D DD XD UD VD) (1 + i * pl ne) + (D + DD + DD + DD + DD + D + XD) := by
  have c := fun r (hr : r < 7) => planC_list (ln := ln) (ne := ne) (D := D) (DD := DD) (XD := XD) (UD := UD) (VD := VD) i r hi hr
  have c0 := c 0 (by omega); have c1 := c 1 (by omega); have c2 := c 2 (by omega); have c3 := c 3 (by omega); have c4 := c 4 (by omega); have c5 := c 5 (by omega); have c6 := c 6 (by omega)
  clear c
  simp only [preC, Nat.add_zero] at c0 c1 c2 c3 c4 c5 c6
  obtain ⟨k, ek⟩ : ∃ k, 1 + i * pl ne = k := ⟨_, rfl⟩
  rw [ek] at c0 c1 c2 c3 c4 c5 c6 ⊢
  obtain ⟨g, eg⟩ : ∃ g, planC ln ne D DD XD UD VD = g := ⟨_, rfl⟩
  rw [eg] at c0 c1 c2 c3 c4 c5 c6 ⊢
  have e : offs g (k + 7) = offs g k + g k + g (k + 1) + g (k + 2) + g (k + 3) + g (k + 4) + g (k + 5) + g (k + 6) := rfl
  rw [e, c0, c1, c2, c3, c4, c5, c6]
  simp
  omega

theorem offs_nets (i : Nat) (hi : i < ln) (j : Nat) (hj : j ≤ ne) : offs (planC ln ne D DD XD UD VD) (1 + i * pl ne + 7 + 2 * j) = offs (planC ln ne D DD XD UD VD) (1 + i * pl ne + 7) + j * (UD + UD) := by
  induction j with
  | zero => simp
  | succ j ih =>
    have a := planC_up (ln := ln) (ne := ne) (D := D) (DD := DD) (XD := XD) (UD := UD) (VD := VD) i j hi (by omega)
    have b := planC_down (ln := ln) (ne := ne) (D := D) (DD := DD) (XD := XD) (UD := UD) (VD := VD) i j hi (by omega)
    rw [show 1 + i * pl ne + 7 + 2 * (j + 1) = 1 + i * pl ne + 7 + 2 * j + 1 + 1 by omega]
    show offs _ (1 + i * pl ne + 7 + 2 * j) + planC ln ne D DD XD UD VD (1 + i * pl ne + 7 + 2 * j) + planC ln ne D DD XD UD VD (1 + i * pl ne + 7 + 2 * j + 1) = _
    rw [a, b, ih (by omega), Nat.add_mul]
    omega

theorem offs_layers (i : Nat) (hi : i ≤ ln) : offs (planC ln ne D DD XD UD VD) (1 + i * pl ne) = VD + i * perN D DD XD UD ne := by
  induction i with
  | zero => simp [offs, planC]
  | succ i ih =>
    have e : 1 + (i + 1) * pl ne = 1 + i * pl ne + 7 + 2 * ne := by rw [Nat.add_mul, Nat.one_mul]; unfold pl; omega
    rw [e, offs_nets i (by omega) ne (Nat.le_refl _), offs_lists i (by omega), ih (by omega), Nat.add_mul, Nat.one_mul]
    unfold perN
    omega

theorem offs_all : offs (planC ln ne D DD XD UD VD) (1 + ln * pl ne + 2) = VD + ln * perN D DD XD UD ne + D + VD := by
  show offs _ (1 + ln * pl ne) + planC ln ne D DD XD UD VD (1 + ln * pl ne) + planC ln ne D DD XD UD VD (1 + ln * pl ne + 1) = _
  rw [offs_layers ln (Nat.le_refl _), planC_norm, planC_out]
end

/-- the k-th list of weights that stand one behind the other -/
def seg (cnt : Nat → Nat) (ws : List Int) (k : Nat) : List Int := (ws.drop (offs cnt k)).take (cnt k)

theorem Filled.seq {A : Nat → Addr} {cnt : Nat → Nat} {T n vb xb B0 base : Nat} {ws : List Int} {W0 W : World} (h : Filled A cnt T n vb xb B0 base ws W0 T W) :
    ∃ G : Nat → SL, ∀ k, k < T → W.cell? (A k) = some (G k).v ∧ (G k).n = cnt k ∧ IsS W (G k) (seg cnt ws k) ∧ ∀ y, (G k).a = some y → base ≤ y.block :=
  have : Inhabited SL := ⟨SL.nought⟩
  Go.Deep.choose_lt (p := fun k (s : SL) => W.cell? (A k) = some s.v ∧ s.n = cnt k ∧ IsS W s (seg cnt ws k) ∧ ∀ y, s.a = some y → base ≤ y.block) fun k hk => by
    obtain ⟨B, cB, g1, g2, g3, g4, g5⟩ := h.done k hk
    exact ⟨⟨B, cnt k, cB⟩, g1, rfl, ⟨g2, g3, g4⟩, g5⟩

theorem at_plus (b o j : Nat) : (⟨b, o, none⟩ : Addr).add j = ⟨b, o + j, none⟩ := by
  unfold Addr.add
  split
  · rename_i e
    subst e
    rfl
  · rfl

/-- a framed model all of whose lists are there -/
theorem modAt_of {W : World} {mb b ln ne : Nat} {S : Nat → List Int} {G : Nat → SL} (hG : ∀ k, k < 1 + ln * pl ne + 2 → W.cell? (planA mb b ln ne k) = some (G k).v ∧ IsS W (G k) (S k)) (hne : 0 < ne)
    (up : ∀ i, i < ln → W.cell? ⟨((⟨b + 2, 0, none⟩ : Addr).add (i * 9)).block, ((⟨b + 2, 0, none⟩ : Addr).add (i * 9)).off + 7, none⟩ = some (.slice (some ⟨b + 4 + 4 * i, 0, none⟩) ne ne))
    (dn : ∀ i, i < ln → W.cell? ⟨((⟨b + 2, 0, none⟩ : Addr).add (i * 9)).block, ((⟨b + 2, 0, none⟩ : Addr).add (i * 9)).off + 8, none⟩ = some (.slice (some ⟨b + 6 + 4 * i, 0, none⟩) ne ne)) :
    ModAt W (G 0) ⟨some ⟨b + 2, 0, none⟩, ln, ln⟩ (G (1 + ln * pl ne)) (G (1 + ln * pl ne + 1))
      (fun i j => if j < 7 then G (1 + i * pl ne + j) else if j = 7 then ⟨some ⟨b + 4 + 4 * i, 0, none⟩, ne, ne⟩ else ⟨some ⟨b + 6 + 4 * i, 0, none⟩, ne, ne⟩) (fun i k => G (1 + i * pl ne + 7 + 2 * k)) (fun i k => G (1 + i * pl ne + 7 + 2 * k + 1)) (ofSeq ln ne S) := by
  have le : ∀ i, i < ln → 1 + i * pl ne + pl ne ≤ 1 + ln * pl ne := fun i hi => by
    have := Nat.mul_le_mul_right (pl ne) (show i + 1 ≤ ln by omega)
    rw [Nat.add_mul, Nat.one_mul] at this
    omega
  have p7 : pl ne = 7 + 2 * ne := rfl
  refine ⟨(hG 0 (by omega)).2, (hG _ (by omega)).2, (hG _ (by omega)).2, rfl, fun _ => ⟨_, rfl⟩, (fun h => by cases h), Nat.le_refl _, fun x hx i hi j hj => ?_, fun i hi => ⟨fun j hj => ?_, ?_, ?_⟩⟩
  · obtain rfl := Option.some.inj hx
    rw [at_add, at_plus]
    have hi' : i < ln := hi
    by_cases h7 : j < 7
    · rw [if_pos h7, ← planA_list mb b ln ne i j hi' h7]
      exact (hG _ (by have := le i hi'; omega)).1
    · rw [if_neg h7]
      by_cases e7 : j = 7
      · subst e7
        have := up i hi'
        rw [at_add] at this
        rw [if_pos rfl]
        exact this
      · obtain rfl : j = 8 := by omega
        have := dn i hi'
        rw [at_add] at this
        rw [if_neg (by omega)]
        exact this
  · have hi' : i < ln := hi
    show IsS W (if j < 7 then _ else _) _
    rw [if_pos hj]
    exact (hG _ (by have := le i hi'; omega)).2
  · have hi' : i < ln := hi
    refine ⟨rfl, fun _ => ⟨_, rfl⟩, (fun h => by simp at h), Nat.le_refl _, fun x hx k hk => ?_, fun k hk => ?_⟩
    · simp at hx
      subst hx
      have hk' : k < ne := hk
      rw [at_add, ← planA_up mb b ln ne i k hi' hk']
      exact (hG _ (by have := le i hi'; omega)).1
    · have hk' : k < ne := hk
      exact (hG _ (by have := le i hi'; omega)).2
  · have hi' : i < ln := hi
    refine ⟨rfl, fun _ => ⟨_, rfl⟩, (fun h => by simp at h), Nat.le_refl _, fun x hx k hk => ?_, fun k hk => ?_⟩
    · simp at hx
      subst hx
      have hk' : k < ne := hk
      rw [at_add, ← planA_down mb b ln ne i k hi' hk']
      exact (hG _ (by have := le i hi'; omega)).1
    · have hk' : k < ne := hk
      exact (hG _ (by have := le i hi'; omega)).2

theorem res_no (d h l v u x t n : Int) (w : World) (sa : Option Addr) (nW cW : Nat) (hk : ∀ w, Calls Try.prog 9 #[.agg #[.int .i64 d, .int .i64 h, .int .i64 l, .int .i64 v, .int .i64 u, .int .i64 x, .int .i64 t, .int .i64 n]] w fun e w' => e = .returned (.bool false) ∧ Below w.heap.size w w') :
    Calls Try.prog 24 #[.agg #[.int .i64 d, .int .i64 h, .int .i64 l, .int .i64 v, .int .i64 u, .int .i64 x, .int .i64 t, .int .i64 n], .slice sa nW cW] w fun e w' => e = .returned (.tuple #[.agg #[.int .i64 0, .int .i64 0, .int .i64 0, .int .i64 0, .int .i64 0, .int .i64 0, .int .i64 0, .int .i64 0, nilS, nilS, nilS, nilS], .int .i64 20]) ∧ Below w.heap.size w w' := by
  have hb := below_new (below_new (below_new (Below.refl w.heap.size w) (.cells #[.int .i64 d, .int .i64 h, .int .i64 l, .int .i64 v, .int .i64 u, .int .i64 x, .int .i64 t, .int .i64 n] 23)) (.cells #[.slice sa nW cW] 26)) (.cells #[.int .i64 0, .int .i64 0, .int .i64 0, .int .i64 0, .int .i64 0, .int .i64 0, .int .i64 0, .int .i64 0, nilS, nilS, nilS, nilS] 29)
  have q2 := Blk.new 29 ((w.alloc (.cells #[.int .i64 d, .int .i64 h, .int .i64 l, .int .i64 v, .int .i64 u, .int .i64 x, .int .i64 t, .int .i64 n] 23)).alloc (.cells #[.slice sa nW cW] 26)) #[.int .i64 0, .int .i64 0, .int .i64 0, .int .i64 0, .int .i64 0, .int .i64 0, .int .i64 0, .int .i64 0, nilS, nilS, nilS, nilS]
  have s2 : ((w.alloc (.cells #[.int .i64 d, .int .i64 h, .int .i64 l, .int .i64 v, .int .i64 u, .int .i64 x, .int .i64 t, .int .i64 n] 23)).alloc (.cells #[.slice sa nW cW] 26)).heap.size = w.heap.size + 1 + 1 := by simp
  rw [s2] at q2
  have HQ := hidden_ q2
  clear q2 s2
  go_enter Try.func24, Try.ntmps24
  go_wp2_with (first
    | (go_at_call 9; refine (hk _).mono ?_; rintro e W1 ⟨rfl, h1⟩; have q1 := HQ.out.kept h1; replace hb := below_then hb h1; obtain ⟨z0, z1, z2, z3, z4, z5, z6, z7, z8, z9, z10, z11⟩ := q1.c12; obtain ⟨o0, o1, o2, o3, o4, o5, o6, o7, o8, o9, o10, o11⟩ := q1.o12; clear h1))
  obtain ⟨W2, eW, q2, only, hz⟩ := set12 q1 (.int .i64 0) (.int .i64 0) (.int .i64 0) (.int .i64 0) (.int .i64 0) (.int .i64 0) (.int .i64 0) (.int .i64 0) nilS nilS nilS nilS
  rw [eW]
  refine bodyPost_ret (v := .tuple #[.agg #[.int .i64 0, .int .i64 0, .int .i64 0, .int .i64 0, .int .i64 0, .int .i64 0, .int .i64 0, .int .i64 0, nilS, nilS, nilS, nilS], .int .i64 20]) ?_ rfl ⟨rfl, Only.below hb (by omega) hb.size only⟩
  obtain ⟨y0, y1, y2, y3, y4, y5, y6, y7, y8, y9, y10, y11⟩ := q2.c12
  simp [results, Try.results24, go_sem, y0, y1, y2, y3, y4, y5, y6, y7, y8, y9, y10, y11]

set_option maxHeartbeats 1000000 in
theorem shape_few (d h l v u x t n : Int) (w : World) (sa : Option Addr) (nW cW : Nat) (hk : ∀ w, Calls Try.prog 9 #[.agg #[.int .i64 d, .int .i64 h, .int .i64 l, .int .i64 v, .int .i64 u, .int .i64 x, .int .i64 t, .int .i64 n]] w fun e w' => e = .returned (.bool true) ∧ Below w.heap.size w w')
    (Z : Int) (k11 : ∀ w, Calls Try.prog 11 #[.agg #[.int .i64 d, .int .i64 h, .int .i64 l, .int .i64 v, .int .i64 u, .int .i64 x, .int .i64 t, .int .i64 n]] w fun e w' => e = .returned (.int .i64 Z) ∧ Below w.heap.size w w') (hZ : ((nW : Int) == Z) = false) :
    Calls Try.prog 24 #[.agg #[.int .i64 d, .int .i64 h, .int .i64 l, .int .i64 v, .int .i64 u, .int .i64 x, .int .i64 t, .int .i64 n], .slice sa nW cW] w fun e w' => e = .returned (.tuple #[.agg #[.int .i64 0, .int .i64 0, .int .i64 0, .int .i64 0, .int .i64 0, .int .i64 0, .int .i64 0, .int .i64 0, nilS, nilS, nilS, nilS], .int .i64 21]) ∧ Below w.heap.size w w' := by
  have hb := below_new (below_new (below_new (Below.refl w.heap.size w) (.cells #[.int .i64 d, .int .i64 h, .int .i64 l, .int .i64 v, .int .i64 u, .int .i64 x, .int .i64 t, .int .i64 n] 23)) (.cells #[.slice sa nW cW] 26)) (.cells #[.int .i64 0, .int .i64 0, .int .i64 0, .int .i64 0, .int .i64 0, .int .i64 0, .int .i64 0, .int .i64 0, nilS, nilS, nilS, nilS] 29)
  have q0 := ((Blk.new 23 w #[.int .i64 d, .int .i64 h, .int .i64 l, .int .i64 v, .int .i64 u, .int .i64 x, .int .i64 t, .int .i64 n]).kept (below_new (below_new (Below.refl _ _) (.cells #[.slice sa nW cW] 26)) (.cells #[.int .i64 0, .int .i64 0, .int .i64 0, .int .i64 0, .int .i64 0, .int .i64 0, .int .i64 0, .int .i64 0, nilS, nilS, nilS, nilS] 29)))
  have qw := (Blk.new 26 (w.alloc (.cells #[.int .i64 d, .int .i64 h, .int .i64 l, .int .i64 v, .int .i64 u, .int .i64 x, .int .i64 t, .int .i64 n] 23)) #[.slice sa nW cW]).kept (below_new (Below.refl _ _) (.cells #[.int .i64 0, .int .i64 0, .int .i64 0, .int .i64 0, .int .i64 0, .int .i64 0, .int .i64 0, .int .i64 0, nilS, nilS, nilS, nilS] 29))
  have q2 := Blk.new 29 ((w.alloc (.cells #[.int .i64 d, .int .i64 h, .int .i64 l, .int .i64 v, .int .i64 u, .int .i64 x, .int .i64 t, .int .i64 n] 23)).alloc (.cells #[.slice sa nW cW] 26)) #[.int .i64 0, .int .i64 0, .int .i64 0, .int .i64 0, .int .i64 0, .int .i64 0, .int .i64 0, .int .i64 0, nilS, nilS, nilS, nilS]
  have s1 : (w.alloc (.cells #[.int .i64 d, .int .i64 h, .int .i64 l, .int .i64 v, .int .i64 u, .int .i64 x, .int .i64 t, .int .i64 n] 23)).heap.size = w.heap.size + 1 := by simp
  have s2 : ((w.alloc (.cells #[.int .i64 d, .int .i64 h, .int .i64 l, .int .i64 v, .int .i64 u, .int .i64 x, .int .i64 t, .int .i64 n] 23)).alloc (.cells #[.slice sa nW cW] 26)).heap.size = w.heap.size + 1 + 1 := by simp
  have s3 : (((w.alloc (.cells #[.int .i64 d, .int .i64 h, .int .i64 l, .int .i64 v, .int .i64 u, .int .i64 x, .int .i64 t, .int .i64 n] 23)).alloc (.cells #[.slice sa nW cW] 26)).alloc (.cells #[.int .i64 0, .int .i64 0, .int .i64 0, .int .i64 0, .int .i64 0, .int .i64 0, .int .i64 0, .int .i64 0, nilS, nilS, nilS, nilS] 29)).heap.size = w.heap.size + 3 := by simp
  rw [s1] at qw
  rw [s2] at q2
  obtain ⟨X0, eX⟩ : ∃ X0, ((w.alloc (.cells #[.int .i64 d, .int .i64 h, .int .i64 l, .int .i64 v, .int .i64 u, .int .i64 x, .int .i64 t, .int .i64 n] 23)).alloc (.cells #[.slice sa nW cW] 26)).alloc (.cells #[.int .i64 0, .int .i64 0, .int .i64 0, .int .i64 0, .int .i64 0, .int .i64 0, .int .i64 0, .int .i64 0, nilS, nilS, nilS, nilS] 29) = X0 := ⟨_, rfl⟩
  rw [eX] at hb q0 qw q2 s3
  clear s1 s2
  have HX := hidden_ eX
  clear eX
  go_enter Try.func24, Try.ntmps24
  go_wp2_with (first | (go_at_call 9; rw [HX.out]; refine (hk _).mono ?_; rintro e W1 ⟨rfl, h1⟩; replace q0 := q0.kept h1; replace qw := qw.kept h1; replace q2 := q2.kept h1; replace hb := below_then hb h1; have s4 := h1.size; obtain ⟨c0, c1, c2, c3, c4, c5, c6, c7⟩ := q0.cfg; have cw : W1.cell? ⟨w.heap.size + 1, 0, none⟩ = some (.slice sa nW cW) := qw.cell 0 rfl; clear h1))
  replace q0 : Blk 23 W1.drew w.heap.size _ := q0
  replace qw : Blk 26 W1.drew (w.heap.size + 1) _ := qw
  replace q2 : Blk 29 W1.drew (w.heap.size + 1 + 1) _ := q2
  replace hb : Below w.heap.size w W1.drew := below_drew hb ⟨1, rfl⟩
  go_region_held3 (fun W => W.cell? ⟨w.heap.size + 1, 0, none⟩ = some (.slice sa nW cW) ∧ W.cell? ⟨w.heap.size, 0, none⟩ = some (.int .i64 d) ∧ W.cell? ⟨w.heap.size, 1, none⟩ = some (.int .i64 h) ∧ W.cell? ⟨w.heap.size, 2, none⟩ = some (.int .i64 l) ∧ W.cell? ⟨w.heap.size, 3, none⟩ = some (.int .i64 v) ∧ W.cell? ⟨w.heap.size, 4, none⟩ = some (.int .i64 u) ∧ W.cell? ⟨w.heap.size, 5, none⟩ = some (.int .i64 x) ∧ W.cell? ⟨w.heap.size, 6, none⟩ = some (.int .i64 t) ∧ W.cell? ⟨w.heap.size, 7, none⟩ = some (.int .i64 n)) (exact ⟨cw, c0, c1, c2, c3, c4, c5, c6, c7⟩) (first
    | (go_at_call 11; refine (k11 _).mono ?_; rintro e W2 ⟨rfl, h2⟩; have s5 : W1.heap.size ≤ W2.heap.size := h2.size; replace q0 := q0.kept h2; replace qw := qw.kept h2; replace q2 := q2.kept h2; replace hb := below_then hb h2; clear h2 c0 c1 c2 c3 c4 c5 c6 c7 cw; obtain ⟨c0, c1, c2, c3, c4, c5, c6, c7⟩ := q0.cfg; have cw : W2.cell? ⟨w.heap.size + 1, 0, none⟩ = some (.slice sa nW cW) := qw.cell 0 rfl))
  all_goals
    obtain ⟨z0, z1, z2, z3, z4, z5, z6, z7, z8, z9, z10, z11⟩ := q2.c12
    obtain ⟨o0, o1, o2, o3, o4, o5, o6, o7, o8, o9, o10, o11⟩ := q2.o12
    go_wp2
    obtain ⟨W3, eW, q3, only, hz⟩ := set12 q2 (.int .i64 0) (.int .i64 0) (.int .i64 0) (.int .i64 0) (.int .i64 0) (.int .i64 0) (.int .i64 0) (.int .i64 0) nilS nilS nilS nilS
    rw [eW]
    refine bodyPost_ret (v := .tuple #[.agg #[.int .i64 0, .int .i64 0, .int .i64 0, .int .i64 0, .int .i64 0, .int .i64 0, .int .i64 0, .int .i64 0, nilS, nilS, nilS, nilS], .int .i64 21]) ?_ rfl ⟨rfl, Only.below hb (by omega) hb.size only⟩
    obtain ⟨y0, y1, y2, y3, y4, y5, y6, y7, y8, y9, y10, y11⟩ := q3.c12
    simp [results, Try.results24, go_sem, y0, y1, y2, y3, y4, y5, y6, y7, y8, y9, y10, y11]

end Go.Proofs.Ytjbeloljbjfibaa

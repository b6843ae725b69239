/- The document's Flat of any model, given its Check. -/
import Derived.Test.YtjbeloljbjfibaaRows
import Derived.Test.YtjbeloljbjfibaaLayer8
import Derived.Test.YtjbeloljbjfibaaConf
import Derived.Test.YtjbeloljbjfibaaBlank
import Derived.Test.YtjbeloljbjfibaaCfgRef
import Derived.Test.YtjbeloljbjfibaaSize
import Derived.Test.YtjbeloljbjfibaaSizes
import Derived.Test.YtjbeloljbjfibaaSteps
import Derived.Test.YtjbeloljbjfibaaClo54
import Derived.Test.YtjbeloljbjfibaaFill
import Derived.Test.YtjbeloljbjfibaaMods
import Derived.Test.YtjbeloljbjfibaaFills
import Derived.Test.YtjbeloljbjfibaaShape
import Derived.Test.YtjbeloljbjfibaaShapes
import Derived.Test.YtjbeloljbjfibaaCheck
import Derived.Test.YtjbeloljbjfibaaChecks
import Derived.Test.YtjbeloljbjfibaaDims
import Derived.Test.YtjbeloljbjfibaaFlat
import Derived.Test.YtjbeloljbjfibaaNumbers
import Derived.Test.YtjbeloljbjfibaaPrefix
import Derived.Test.YtjbeloljbjfibaaBody
import Derived.Test.YtjbeloljbjfibaaDecode
import Derived.WalkKit
import Derived.ProofKit
import Derived.OpenShut
import Derived.Below
import Derived.WalkLawsBesides
import Derived.Deep.QuietTactic
import Derived.BigQuiet
import Derived.Deep.RegionWith
import Derived.Deep.RegionHeld3
import Derived.Deep.OwnRows
import Derived.Deep.Slices
import Derived.Test.YtjbeloljbjfibaaTrips
import Derived.Test.YtjbeloljbjfibaaInv
import Derived.Test.YtjbeloljbjfibaaBuild
import Derived.Test.YtjbeloljbjfibaaTypedC
import Derived.Test.YtjbeloljbjfibaaEqWorks
import Derived.Test.YtjbeloljbjfibaaCuts
import Derived.Test.YtjbeloljbjfibaaSameLM
import Derived.Test.YtjbeloljbjfibaaOwns
import Derived.Test.YtjbeloljbjfibaaJoin
namespace Go.Proofs.Ytjbeloljbjfibaa
open Go.ChangeShapes Go.WideShapes Go.ChangeAt Go.RowKit
set_option linter.unusedVariables false

/-- the lists so far, one behind the other, in a row of the call's own -/
def OwnF (B : Nat) (w : World) (v : Value) (S : Nat → List Int) (k : Nat) : Prop := w.ownsRow B 46 1 v (flatTo S k).length ((flatTo S k).map (Value.int .i8))

theorem wpList_flat {ops : Array Oper} {rest : List Oper} {o : Oper} {a : Act} {w : World} {Q : Exit → Act → World → Prop} (hgd : o.guard = none) (s x : Operand) (ho : o.op = .call { callee := .builtin .append, args := #[s, x], argTypes := #[26, 26] })
    (B k : Nat) (v : Value) (S : Nat → List Int) (q : SL) (hs : a.eval s = v) (hx : a.eval x = .slice q.a q.n q.c) (hO : OwnF B w v S k) (hq : IsS w q (S k)) (hl : (flatTo S (k + 1)).length ≤ 1000000) (hB : B ≤ w.heap.size)
    (h : ∀ v' w', Below B w w' → Keeps 29 w w' → Keeps 59 w w' → OwnF B w' v' S (k + 1) → wpList Try.prog ops Q rest (a.put o.dst v') w') : wpList Try.prog ops Q (o :: rest) a w := by
  obtain ⟨i0, hi, hz0, hz1, hz2⟩ := i46'
  have hlen := hq.reads.len
  have e : (flatTo S (k + 1)).length = (flatTo S k).length + q.n := by rw [flat_succ, List.length_append, hlen]
  refine wpList_copy (by simp [Region.wanted, hgd]) s x 26 ho B 46 i0 (.int .i8 0) 1 Try.underlying26 hi hz0 hz1 hz2 rfl v _ _ hs hO .i8 q.a q.n q.c (S k) hx hq.reads hq.nil (by unfold maxLen; omega) (by omega) hB ?_
  intro v' w' ho' hg
  refine h v' w' ((Below.refl B w).grown hg hB fun g h => (World.ownsRow.lt hO g h).1) (Keeps.of_own hg hO (by decide)) (Keeps.of_own hg hO (by decide)) ?_
  unfold OwnF
  rw [e, flat_succ, List.map_append]
  exact ho'

theorem World.ownsRow.cases' {w : World} {B n c : Nat} {a : Option Addr} {xs : List Value} (h : w.ownsRow B 46 1 (.slice a n c) n xs) : (c = 0 ∧ n = 0) ∨ ∃ g : Nat, n ≤ c ∧ a = some ⟨g, 0, none⟩ := by
  rcases h.2 with ⟨h1, h2⟩ | ⟨g, cap, cur, h1, _, _, hn, _⟩
  · simp only [Value.slice.injEq] at h1
    exact .inl ⟨h1.2.2, h2⟩
  · simp only [Value.slice.injEq] at h1
    exact .inr ⟨g, by omega, h1.1⟩

theorem ownF_is {B : Nat} {w : World} {v : Value} {S : Nat → List Int} {k : Nat} (h : OwnF B w v S k) (hl : (flatTo S k).length ≤ 1000000) (hw : ∀ z ∈ flatTo S k, (Lit.int .i8 z).wf = true) : ∃ q : SL, v = .slice q.a q.n q.c ∧ IsS w q (flatTo S k) := by
  obtain ⟨a, c, e, hre⟩ := own_reads (k := .i8) h rfl hw (fun j hj => copy_at .i8 _ j hj)
  subst e
  refine ⟨⟨a, _, c⟩, rfl, hre, ?_, ?_⟩
  · rcases World.ownsRow.cases' h with ⟨h1, h2⟩ | ⟨g, h1, h2⟩
    · intro _; exact h1
    · intro e; have e' : a = none := e; rw [e'] at h2; cases h2
  · rcases World.ownsRow.cases' h with ⟨h1, h2⟩ | ⟨g, h1, h2⟩
    · show (flatTo S k).length ≤ c; omega
    · exact h1

set_option maxHeartbeats 8000000 in
set_option maxRecDepth 20000 in
theorem refFlat_yes (d h l v u x t n : Int) (E N O : SL) (La : Option Addr) (ml Lc ne : Nat) (L : SL) (Y U D : Nat → Nat → SL) (m : ModV) (w : World) (hM : ModAt w E L N O Y U D m) (e1 : L.a = La) (hml : m.ln = ml) (hm2 : ml ≤ 2) (hne : ne ≤ 4) (hun : ∀ i, i < ml → m.un i = ne ∧ m.dn i = ne)
    (hlen : (flatTo (seqOf m ne) (1 + ml * pl ne + 2)).length ≤ 10000) (hwf : ∀ z ∈ flatTo (seqOf m ne) (1 + ml * pl ne + 2), (Lit.int .i8 z).wf = true)
    (k17 : ∀ W, Below w.heap.size w W → Calls Try.prog 17 #[.agg #[.int .i64 d, .int .i64 h, .int .i64 l, .int .i64 v, .int .i64 u, .int .i64 x, .int .i64 t, .int .i64 n, .slice E.a E.n E.c, .slice La ml Lc, .slice N.a N.n N.c, .slice O.a O.n O.c]] W fun e w' => e = .returned (.int .i64 0) ∧ Below W.heap.size W w') :
    Calls Try.prog 20 #[.agg #[.int .i64 d, .int .i64 h, .int .i64 l, .int .i64 v, .int .i64 u, .int .i64 x, .int .i64 t, .int .i64 n, .slice E.a E.n E.c, .slice La ml Lc, .slice N.a N.n N.c, .slice O.a O.n O.c]] w fun e w' => ∃ s : SL, e = .returned (.slice s.a s.n s.c) ∧ IsS w' s (flatTo (seqOf m ne) (1 + ml * pl ne + 2)) ∧ Below w.heap.size w w' := by
  have few : ∀ k, k ≤ 1 + ml * pl ne + 2 → (flatTo (seqOf m ne) k).length ≤ 1000000 := fun k hk => by
    have key : ∀ j, (flatTo (seqOf m ne) k).length ≤ (flatTo (seqOf m ne) (k + j)).length := fun j => by
      induction j with
      | zero => exact Nat.le_refl _
      | succ j ih => rw [← Nat.add_assoc, flat_succ, List.length_append]; omega
    have := key (1 + ml * pl ne + 2 - k)
    rw [show k + (1 + ml * pl ne + 2 - k) = 1 + ml * pl ne + 2 by omega] at this
    omega
  obtain ⟨S, eS⟩ : ∃ S, seqOf m ne = S := ⟨_, rfl⟩
  rw [eS] at hlen hwf ⊢
  simp only [eS] at few
  have s0 : S 0 = m.e := by rw [← eS]; rfl
  have sn : S (1 + ml * pl ne) = m.nm := by rw [← eS, ← hml]; exact seqOf_norm m ne
  have so : S (1 + ml * pl ne + 1) = m.o := by rw [← eS, ← hml]; exact seqOf_out m ne
  have sl : ∀ i, i < ml → ∀ r, r < 7 → S (1 + i * pl ne + r) = m.f i r := fun i hi r hr => by rw [← eS]; exact seqOf_list m ne i r (by omega) hr
  have su : ∀ i, i < ml → ∀ j, j < ne → S (1 + i * pl ne + 7 + 2 * j) = m.u i j := fun i hi j hj => by rw [← eS]; exact seqOf_up m ne i j (by omega) hj
  have sd : ∀ i, i < ml → ∀ j, j < ne → S (1 + i * pl ne + 7 + 2 * j + 1) = m.d i j := fun i hi j hj => by rw [← eS]; exact seqOf_down m ne i j (by omega) hj
  have ip : ∀ i r, i < ml → r ≤ pl ne → 1 + i * pl ne + r ≤ 1 + ml * pl ne := fun i r hi hr => by
    have : (i + 1) * pl ne ≤ ml * pl ne := Nat.mul_le_mul_right _ (by omega)
    rw [Nat.add_mul] at this
    omega
  have hb := below_new (Below.refl w.heap.size w) (.cells #[.int .i64 d, .int .i64 h, .int .i64 l, .int .i64 v, .int .i64 u, .int .i64 x, .int .i64 t, .int .i64 n, .slice E.a E.n E.c, .slice La ml Lc, .slice N.a N.n N.c, .slice O.a O.n O.c] 29)
  have qb := Blk.new 29 w #[.int .i64 d, .int .i64 h, .int .i64 l, .int .i64 v, .int .i64 u, .int .i64 x, .int .i64 t, .int .i64 n, .slice E.a E.n E.c, .slice La ml Lc, .slice N.a N.n N.c, .slice O.a O.n O.c]
  have HF := hidden_ (And.intro s0 (And.intro sn (And.intro so (And.intro sl (And.intro su sd)))))
  have FEW := hidden_ few
  have WF := hidden_ hwf
  have IP := hidden_ ip
  have HM := hidden_ hM
  have HL := hidden_ (And.intro e1 (And.intro hml hun))
  obtain ⟨a0, a1, a2, a3, a4, a5, a6, a7, a8, a9, a10, a11⟩ := qb.c12
  clear hlen hwf s0 sn so sl su sd few ip hM e1 hml hun eS
  go_enter Try.func20, Try.ntmps20
  go_wp2_with (first
    | (go_at_call 17; refine (k17 _ hb).mono ?_; rintro e W1 ⟨rfl, h1⟩; replace qb := qb.kept h1; replace hb := below_then hb h1; clear h1 k17 a0 a1 a2 a3 a4 a5 a6 a7 a8 a9 a10 a11; obtain ⟨A, eA⟩ : ∃ A, W1.alloc (.cells #[] 46) = A := ⟨_, rfl⟩; have bA : Below W1.heap.size W1 A := eA ▸ below_new (Below.refl _ _) _; have gA : Blk 46 A W1.heap.size #[] := eA ▸ Blk.new 46 W1 _; have sB := hb.size; have o0 : OwnF w.heap.size A (.slice (some ⟨W1.heap.size, 0, none⟩) 0 0) S 0 := ⟨rfl, .inr ⟨W1.heap.size, 0, #[], rfl, sB, gA, Nat.le_refl _, by unfold maxLen; omega, rfl, rfl⟩⟩; replace qb := qb.kept bA; replace hb := below_then hb bA; clear bA gA; obtain ⟨a0, a1, a2, a3, a4, a5, a6, a7, a8, a9, a10, a11⟩ := qb.c12)
    | (at_builtin; refine wpList_flat rfl (.tmp 10) (.tmp 12) rfl w.heap.size 0 _ S E rfl rfl o0 (by rw [HF.out.1]; exact (HM.out.below hb).e) (FEW.out _ (by omega)) hb.size ?_; intro v0 W2 b2 k29 k59 hO; replace hb := hb.trans b2; replace qb := k29.blk qb; clear b2 k29 k59 o0 eA a0 a1 a2 a3 a4 a5 a6 a7 a8 a9 a10 a11; obtain ⟨a0, a1, a2, a3, a4, a5, a6, a7, a8, a9, a10, a11⟩ := qb.c12))
  have HO := hidden_ hO
  clear hO a0 a1 a2 a3 a4 a5 a6 a7 a8 a9 a10 a11
  go_loopw [3, 4, 5, 6] (fun v3 i _ _ wr => ∃ k : Nat, k ≤ ml ∧ i = .int .i64 k ∧ Below w.heap.size w wr ∧ Blk 29 wr w.heap.size #[.int .i64 d, .int .i64 h, .int .i64 l, .int .i64 v, .int .i64 u, .int .i64 x, .int .i64 t, .int .i64 n, .slice E.a E.n E.c, .slice La ml Lc, .slice N.a N.n N.c, .slice O.a O.n O.c] ∧ OwnF w.heap.size wr v3 S (1 + k * pl ne)) (fun _ i _ _ _ => ml - (intOf i).toNat)
  case atStart => exact ⟨0, Nat.zero_le _, rfl, hb, qb, by rw [Nat.zero_mul]; exact HO.out⟩
  case round =>
    obtain ⟨k, hk, rfl, hbr, qr, hO⟩ := hrel
    obtain ⟨WR, eWR⟩ : ∃ WR, WR = wr := ⟨_, rfl⟩
    subst eWR
    clear hb qb HO
    obtain ⟨a0, a1, a2, a3, a4, a5, a6, a7, a8, a9, a10, a11⟩ := qr.c12
    by_cases hlt : k < ml
    · have hMr := HM.out.below hbr
      obtain ⟨eLa, eml, hun⟩ := HL.out
      have hkm : k < m.ln := by omega
      obtain ⟨x0, hx0⟩ := hMr.some_ (by omega)
      obtain rfl : La = some x0 := eLa.symm.trans hx0
      obtain ⟨P, eP, p0, p1, p2, p3, p4, p5, p6, p7, p8⟩ := at_nine (fun j hj => hMr.cell x0 hx0 k hkm j hj)
      have hlt' : (k : Int) < (ml : Int) := by omega
      obtain ⟨A, eA⟩ : ∃ A, WR.alloc (.cells #[.slice (Y k 0).a (Y k 0).n (Y k 0).c, .slice (Y k 1).a (Y k 1).n (Y k 1).c, .slice (Y k 2).a (Y k 2).n (Y k 2).c, .slice (Y k 3).a (Y k 3).n (Y k 3).c, .slice (Y k 4).a (Y k 4).n (Y k 4).c, .slice (Y k 5).a (Y k 5).n (Y k 5).c, .slice (Y k 6).a (Y k 6).n (Y k 6).c, .slice (Y k 7).a (Y k 7).n (Y k 7).c, .slice (Y k 8).a (Y k 8).n (Y k 8).c] 59) = A := ⟨_, rfl⟩
      have bA : Below WR.heap.size WR A := eA ▸ below_new (Below.refl _ _) _
      have qy : Blk 59 A WR.heap.size #[.slice (Y k 0).a (Y k 0).n (Y k 0).c, .slice (Y k 1).a (Y k 1).n (Y k 1).c, .slice (Y k 2).a (Y k 2).n (Y k 2).c, .slice (Y k 3).a (Y k 3).n (Y k 3).c, .slice (Y k 4).a (Y k 4).n (Y k 4).c, .slice (Y k 5).a (Y k 5).n (Y k 5).c, .slice (Y k 6).a (Y k 6).n (Y k 6).c, .slice (Y k 7).a (Y k 7).n (Y k 7).c, .slice (Y k 8).a (Y k 8).n (Y k 8).c] := eA ▸ Blk.new 59 WR _
      have hOA : OwnF w.heap.size A _ S (1 + k * pl ne + 0) := (Keeps.of_below bA).own hO
      have hbA := below_then hbr bA
      have qA := qr.kept bA
      have c0 := qy.cell 0 rfl
      have HK := hidden_ (And.intro eml (And.intro hun hkm))
      clear hMr hO hbr qr bA eml hun eLa hx0
      go_wp2_with (first
        | (at_builtin; refine wpList_flat rfl (.tmp 26) (.tmp 28) rfl w.heap.size (1 + k * pl ne + 0) _ S (Y k 0) rfl rfl hOA (by rw [HF.out.2.2.2.1 k hlt 0 (by decide)]; exact ((HM.out.below hbA).lay k HK.out.2.2).f 0 (by decide)) (FEW.out _ (by have := IP.out k (0 + 1) hlt (by unfold pl; omega); omega)) hbA.size ?_; intro v0 X0 b2 k29 k59 hO1; replace hbA := hbA.trans b2; replace qA := k29.blk qA; replace qy := k59.blk qy; clear b2 k29 k59 hOA c0; have c1 := qy.cell 1 rfl)
        | (at_builtin; refine wpList_flat rfl (.tmp 30) (.tmp 32) rfl w.heap.size (1 + k * pl ne + 1) _ S (Y k 1) rfl rfl hO1 (by rw [HF.out.2.2.2.1 k hlt 1 (by decide)]; exact ((HM.out.below hbA).lay k HK.out.2.2).f 1 (by decide)) (FEW.out _ (by have := IP.out k (1 + 1) hlt (by unfold pl; omega); omega)) hbA.size ?_; intro v1 X1 b2 k29 k59 hO2; replace hbA := hbA.trans b2; replace qA := k29.blk qA; replace qy := k59.blk qy; clear b2 k29 k59 hO1 c1; have c2 := qy.cell 2 rfl)
        | (at_builtin; refine wpList_flat rfl (.tmp 34) (.tmp 36) rfl w.heap.size (1 + k * pl ne + 2) _ S (Y k 2) rfl rfl hO2 (by rw [HF.out.2.2.2.1 k hlt 2 (by decide)]; exact ((HM.out.below hbA).lay k HK.out.2.2).f 2 (by decide)) (FEW.out _ (by have := IP.out k (2 + 1) hlt (by unfold pl; omega); omega)) hbA.size ?_; intro v2 X2 b2 k29 k59 hO3; replace hbA := hbA.trans b2; replace qA := k29.blk qA; replace qy := k59.blk qy; clear b2 k29 k59 hO2 c2; have c3 := qy.cell 3 rfl)
        | (at_builtin; refine wpList_flat rfl (.tmp 38) (.tmp 40) rfl w.heap.size (1 + k * pl ne + 3) _ S (Y k 3) rfl rfl hO3 (by rw [HF.out.2.2.2.1 k hlt 3 (by decide)]; exact ((HM.out.below hbA).lay k HK.out.2.2).f 3 (by decide)) (FEW.out _ (by have := IP.out k (3 + 1) hlt (by unfold pl; omega); omega)) hbA.size ?_; intro v3 X3 b2 k29 k59 hO4; replace hbA := hbA.trans b2; replace qA := k29.blk qA; replace qy := k59.blk qy; clear b2 k29 k59 hO3 c3; have c4 := qy.cell 4 rfl)
        | (at_builtin; refine wpList_flat rfl (.tmp 42) (.tmp 44) rfl w.heap.size (1 + k * pl ne + 4) _ S (Y k 4) rfl rfl hO4 (by rw [HF.out.2.2.2.1 k hlt 4 (by decide)]; exact ((HM.out.below hbA).lay k HK.out.2.2).f 4 (by decide)) (FEW.out _ (by have := IP.out k (4 + 1) hlt (by unfold pl; omega); omega)) hbA.size ?_; intro v4 X4 b2 k29 k59 hO5; replace hbA := hbA.trans b2; replace qA := k29.blk qA; replace qy := k59.blk qy; clear b2 k29 k59 hO4 c4; have c5 := qy.cell 5 rfl)
        | (at_builtin; refine wpList_flat rfl (.tmp 46) (.tmp 48) rfl w.heap.size (1 + k * pl ne + 5) _ S (Y k 5) rfl rfl hO5 (by rw [HF.out.2.2.2.1 k hlt 5 (by decide)]; exact ((HM.out.below hbA).lay k HK.out.2.2).f 5 (by decide)) (FEW.out _ (by have := IP.out k (5 + 1) hlt (by unfold pl; omega); omega)) hbA.size ?_; intro v5 X5 b2 k29 k59 hO6; replace hbA := hbA.trans b2; replace qA := k29.blk qA; replace qy := k59.blk qy; clear b2 k29 k59 hO5 c5; have c6 := qy.cell 6 rfl)
        | (at_builtin; refine wpList_flat rfl (.tmp 50) (.tmp 52) rfl w.heap.size (1 + k * pl ne + 6) _ S (Y k 6) rfl rfl hO6 (by rw [HF.out.2.2.2.1 k hlt 6 (by decide)]; exact ((HM.out.below hbA).lay k HK.out.2.2).f 6 (by decide)) (FEW.out _ (by have := IP.out k (6 + 1) hlt (by unfold pl; omega); omega)) hbA.size ?_; intro v6 X6 b2 k29 k59 hO7; replace hbA := hbA.trans b2; replace qA := k29.blk qA; replace qy := k59.blk qy; clear b2 k29 k59 hO6 c6; have c7 := qy.cell 7 rfl))
      have HQ := hidden_ (And.intro hbA (And.intro qA (And.intro qy hO7)))
      clear hbA qA qy hO7 c7 a0 a1 a2 a3 a4 a5 a6 a7 a8 a9 a10 a11 p0 p1 p2 p3 p4 p5 p6 p7 p8 eA
      go_loopw [3, 6] (fun v3 i wr => ∃ j : Nat, j ≤ ne ∧ i = .int .i64 j ∧ Below w.heap.size w wr ∧ Blk 29 wr w.heap.size #[.int .i64 d, .int .i64 h, .int .i64 l, .int .i64 v, .int .i64 u, .int .i64 x, .int .i64 t, .int .i64 n, .slice E.a E.n E.c, .slice (some x0) ml Lc, .slice N.a N.n N.c, .slice O.a O.n O.c] ∧ Blk 59 wr WR.heap.size #[.slice (Y k 0).a (Y k 0).n (Y k 0).c, .slice (Y k 1).a (Y k 1).n (Y k 1).c, .slice (Y k 2).a (Y k 2).n (Y k 2).c, .slice (Y k 3).a (Y k 3).n (Y k 3).c, .slice (Y k 4).a (Y k 4).n (Y k 4).c, .slice (Y k 5).a (Y k 5).n (Y k 5).c, .slice (Y k 6).a (Y k 6).n (Y k 6).c, .slice (Y k 7).a (Y k 7).n (Y k 7).c, .slice (Y k 8).a (Y k 8).n (Y k 8).c] ∧ OwnF w.heap.size wr v3 S (1 + k * pl ne + 7 + 2 * j)) (fun _ i _ => ne - (intOf i).toNat)
      case atStart => exact ⟨0, Nat.zero_le _, rfl, HQ.out.1, HQ.out.2.1, HQ.out.2.2.1, HQ.out.2.2.2⟩
      case round =>
        clear HQ
        obtain ⟨j, hj, rfl, hb2, qA, qy, hO⟩ := hrel
        have la := (HM.out.below hb2).lay k HK.out.2.2
        have eu := la.u.len.trans (HK.out.2.1 k hlt).1
        have ed := la.d.len.trans (HK.out.2.1 k hlt).2
        by_cases hlt2 : j < ne
        · obtain ⟨x7, hx7⟩ := la.u.some_ (by have := (HK.out.2.1 k hlt).1; omega)
          obtain ⟨x8, hx8⟩ := la.d.some_ (by have := (HK.out.2.1 k hlt).2; omega)
          have c7 := qy.cell 7 rfl
          rw [hx7, eu] at c7
          have cU' : wr.cell? (x7.add j) = some (.slice (U k j).a (U k j).n (U k j).c) := la.u.cell x7 hx7 j (by have := (HK.out.2.1 k hlt).1; omega)
          have iU := la.u.row j (by have := (HK.out.2.1 k hlt).1; omega)
          have hlt2' : (j : Int) < (ne : Int) := by omega
          have FX : Hid (∀ W, Below w.heap.size w W → Blk 59 W WR.heap.size #[.slice (Y k 0).a (Y k 0).n (Y k 0).c, .slice (Y k 1).a (Y k 1).n (Y k 1).c, .slice (Y k 2).a (Y k 2).n (Y k 2).c, .slice (Y k 3).a (Y k 3).n (Y k 3).c, .slice (Y k 4).a (Y k 4).n (Y k 4).c, .slice (Y k 5).a (Y k 5).n (Y k 5).c, .slice (Y k 6).a (Y k 6).n (Y k 6).c, .slice (Y k 7).a (Y k 7).n (Y k 7).c, .slice (Y k 8).a (Y k 8).n (Y k 8).c] → W.cell? ⟨WR.heap.size, 8, none⟩ = some (.slice (some x8) ne (Y k 8).c) ∧ W.cell? (x8.add j) = some (.slice (D k j).a (D k j).n (D k j).c) ∧ IsS W (D k j) (m.d k j)) := fun W hw hq => by
            have la' := (HM.out.below hw).lay k HK.out.2.2
            have c8 := hq.cell 8 rfl
            rw [hx8, ed] at c8
            exact ⟨c8, la'.d.cell x8 hx8 j (by have := (HK.out.2.1 k hlt).2; omega), la'.d.row j (by have := (HK.out.2.1 k hlt).2; omega)⟩
          clear la eu ed hx7 hx8
          go_wp2_with (first
            | (at_builtin; refine wpList_flat rfl (.tmp 61) (.tmp 66) rfl w.heap.size (1 + k * pl ne + 7 + 2 * j) _ S (U k j) rfl rfl hO (by rw [HF.out.2.2.2.2.1 k hlt j hlt2]; exact iU) (FEW.out _ (by have := IP.out k (7 + 2 * j + 1) hlt (by unfold pl; omega); omega)) hb2.size ?_; intro vU XU b2 k29 k59 hO1; replace hb2 := hb2.trans b2; replace qA := k29.blk qA; replace qy := k59.blk qy; clear b2 k29 k59 hO c7 cU' iU; obtain ⟨c8, cD', iD⟩ := FX.out _ hb2 qy)
            | (at_builtin; refine wpList_flat rfl (.tmp 68) (.tmp 73) rfl w.heap.size (1 + k * pl ne + 7 + 2 * j + 1) _ S (D k j) rfl rfl hO1 (by rw [HF.out.2.2.2.2.2 k hlt j hlt2]; exact iD) (FEW.out _ (by have := IP.out k (7 + 2 * j + 1 + 1) hlt (by unfold pl; omega); omega)) hb2.size ?_; intro vD XD b2 k29 k59 hO2; replace hb2 := hb2.trans b2; replace qA := k29.blk qA; replace qy := k59.blk qy; clear b2 k29 k59 hO1 c8 cD' iD))
          go_roundw
          case rel => exact ⟨j + 1, by omega, by go_num, hb2, qA, qy, by rw [show 1 + k * pl ne + 7 + 2 * (j + 1) = 1 + k * pl ne + 7 + 2 * j + 1 + 1 by omega]; exact hO2⟩
          case measure => simp [intOf]; omega
        · obtain rfl : j = ne := by omega
          have c7 := qy.cell 7 rfl
          rw [eu] at c7
          rw [show 1 + k * pl j + 7 + 2 * j = 1 + (k + 1) * pl j by rw [Nat.add_mul]; unfold pl; omega] at hO
          clear la eu ed hlt2 qy
          go_wp2
          go_roundw
          case rel => exact ⟨k + 1, by omega, by go_num, hb2, qA, hO⟩
          case measure => simp [intOf]; omega
    · have ek : k = ml := by omega
      rw [ek] at hO
      have hge : decide ((k : Int) < (ml : Int)) = false := by simp; omega
      have hge' : ¬ ((k : Int) < (ml : Int)) := by omega
      clear ek
      go_wp2_with (first
        | (at_builtin; refine wpList_flat rfl (.tmp 75) (.tmp 77) rfl w.heap.size (1 + ml * pl ne) _ S N rfl rfl hO (by rw [HF.out.2.1]; exact (HM.out.below hbr).nm) (FEW.out _ (by omega)) hbr.size ?_; intro vN XN b2 k29 k59 hO1; replace hbr := hbr.trans b2; replace qr := k29.blk qr; clear b2 k29 k59 hO a0 a1 a2 a3 a4 a5 a6 a7 a8 a9 a10 a11; obtain ⟨a0, a1, a2, a3, a4, a5, a6, a7, a8, a9, a10, a11⟩ := qr.c12)
        | (at_builtin; refine wpList_flat rfl (.tmp 79) (.tmp 81) rfl w.heap.size (1 + ml * pl ne + 1) _ S O rfl rfl hO1 (by rw [HF.out.2.2.1]; exact (HM.out.below hbr).o) (FEW.out _ (by omega)) hbr.size ?_; intro vO XO b2 k29 k59 hO2; replace hbr := hbr.trans b2; obtain ⟨q, eq, iq⟩ := ownF_is hO2 (FEW.out _ (Nat.le_refl _)) WF.out; subst eq; clear b2 k29 k59 hO1 hO2))
      go_ret
      exact ⟨q, rfl, iq, hbr⟩

theorem refFlat_no (d h l v u x t n : Int) (E L N O : SL) (Z : Int) (hZ : (Z == 0) = false) (w : World)
    (k17 : ∀ W, Below w.heap.size w W → Calls Try.prog 17 #[.agg #[.int .i64 d, .int .i64 h, .int .i64 l, .int .i64 v, .int .i64 u, .int .i64 x, .int .i64 t, .int .i64 n, .slice E.a E.n E.c, .slice L.a L.n L.c, .slice N.a N.n N.c, .slice O.a O.n O.c]] W fun e w' => e = .returned (.int .i64 Z) ∧ Below W.heap.size W w') :
    Calls Try.prog 20 #[.agg #[.int .i64 d, .int .i64 h, .int .i64 l, .int .i64 v, .int .i64 u, .int .i64 x, .int .i64 t, .int .i64 n, .slice E.a E.n E.c, .slice L.a L.n L.c, .slice N.a N.n N.c, .slice O.a O.n O.c]] w fun e w' => e = .returned (.slice none 0 0) ∧ Below w.heap.size w w' := by
  have hb := below_new (Below.refl w.heap.size w) (.cells #[.int .i64 d, .int .i64 h, .int .i64 l, .int .i64 v, .int .i64 u, .int .i64 x, .int .i64 t, .int .i64 n, .slice E.a E.n E.c, .slice L.a L.n L.c, .slice N.a N.n N.c, .slice O.a O.n O.c] 29)
  have qb := Blk.new 29 w #[.int .i64 d, .int .i64 h, .int .i64 l, .int .i64 v, .int .i64 u, .int .i64 x, .int .i64 t, .int .i64 n, .slice E.a E.n E.c, .slice L.a L.n L.c, .slice N.a N.n N.c, .slice O.a O.n O.c]
  have hZ' : (Z != 0) = true := by simp [bne, hZ]
  obtain ⟨a0, a1, a2, a3, a4, a5, a6, a7, a8, a9, a10, a11⟩ := qb.c12
  go_enter Try.func20, Try.ntmps20
  go_wp2_with (first
    | (go_at_call 17; refine (k17 _ hb).mono ?_; rintro e W1 ⟨rfl, h1⟩; replace hb := below_then hb h1; clear h1 k17 a0 a1 a2 a3 a4 a5 a6 a7 a8 a9 a10 a11))
  go_ret
  exact ⟨rfl, hb⟩

/-- the document's Flat of any model, given its Check -/
theorem refFlat_call (d h l v u x t n : Int) (E L N O : SL) (Y U D : Nat → Nat → SL) (m : ModV) (w : World) (hM : ModAt w E L N O Y U D m)
    (k17 : ∀ W, Below w.heap.size w W → Calls Try.prog 17 #[.agg #[.int .i64 d, .int .i64 h, .int .i64 l, .int .i64 v, .int .i64 u, .int .i64 x, .int .i64 t, .int .i64 n, .slice E.a E.n E.c, .slice L.a L.n L.c, .slice N.a N.n N.c, .slice O.a O.n O.c]] W fun e w' => e = .returned (.int .i64 (checkB d h l v u x t n m)) ∧ Below W.heap.size W w') :
    Calls Try.prog 20 #[.agg #[.int .i64 d, .int .i64 h, .int .i64 l, .int .i64 v, .int .i64 u, .int .i64 x, .int .i64 t, .int .i64 n, .slice E.a E.n E.c, .slice L.a L.n L.c, .slice N.a N.n N.c, .slice O.a O.n O.c]] w fun e w' => ∃ s : SL, e = .returned (.slice s.a s.n s.c) ∧ IsS w' s (if checkB d h l v u x t n m = 0 then flatV x l m else []) ∧ Below w.heap.size w w' := by
  by_cases hz : checkB d h l v u x t n m = 0
  · rw [if_pos hz]
    obtain ⟨ok, hln, hun, hlen⟩ := checked hz
    have dm := dims_of ok
    have hfl := flat_length hz
    have hwf := flat_wf hM hz
    unfold flatV allT at hfl hwf ⊢
    rw [← hln] at hfl hwf ⊢
    simp only [hz] at k17
    rw [hM.len] at k17 ⊢
    refine refFlat_yes d h l v u x t n E N O L.a m.ln L.c (netsN x) L Y U D m w hM rfl rfl (by have := dm.l1; omega) dm.n1 hun (by rw [hfl]; have := dm.sz1; unfold allT at this; rw [← hln] at this; exact this) hwf k17
  · rw [if_neg hz]
    refine (refFlat_no d h l v u x t n E L N O _ (by simp [hz]) w k17).mono fun e w' hh => ⟨⟨none, 0, 0⟩, hh.1, IsS.none_ _, hh.2⟩

end Go.Proofs.Ytjbeloljbjfibaa

/- What the laws ask of examples: works(). -/
import Derived.Test.YtbmlafgolmmekabRows
import Derived.Test.YtbmlafgolmmekabView
import Derived.Test.YtbmlafgolmmekabOwn
import Derived.Test.YtbmlafgolmmekabCfg
import Derived.Test.YtbmlafgolmmekabCfgs
import Derived.Test.YtbmlafgolmmekabCfgRef
import Derived.Test.YtbmlafgolmmekabHeld
import Derived.Test.YtbmlafgolmmekabReader
import Derived.Test.YtbmlafgolmmekabSls
import Derived.Test.YtbmlafgolmmekabSteps
import Derived.Test.YtbmlafgolmmekabInv
import Derived.Test.YtbmlafgolmmekabTyped
import Derived.Test.YtbmlafgolmmekabAds
import Derived.Test.YtbmlafgolmmekabRanges
import Derived.Test.YtbmlafgolmmekabSat
import Derived.Test.YtbmlafgolmmekabAdds
import Derived.Test.YtbmlafgolmmekabTexts
import Derived.Test.YtbmlafgolmmekabSums
import Derived.Test.YtbmlafgolmmekabSeals
import Derived.Test.YtbmlafgolmmekabOpens
import Derived.Test.YtbmlafgolmmekabWts
import Derived.Test.YtbmlafgolmmekabTwos
import Derived.Test.YtbmlafgolmmekabRdWts
import Derived.Test.YtbmlafgolmmekabRefWts
import Derived.Test.YtbmlafgolmmekabPrefix
import Derived.Test.YtbmlafgolmmekabChange
import Derived.Test.YtbmlafgolmmekabBack
import Derived.Test.YtbmlafgolmmekabCheck
import Derived.Test.YtbmlafgolmmekabPlan
import Derived.Test.YtbmlafgolmmekabFlat
import Derived.Test.YtbmlafgolmmekabShape
import Derived.Test.YtbmlafgolmmekabShapes
import Derived.Test.YtbmlafgolmmekabBody
import Derived.Test.YtbmlafgolmmekabDecode
import Derived.Test.YtbmlafgolmmekabRefCheck
import Derived.Test.YtbmlafgolmmekabEnc
import Derived.Test.YtbmlafgolmmekabTrips
import Derived.Test.YtbmlafgolmmekabDots
import Derived.Test.YtbmlafgolmmekabDotsRef
import Derived.Test.YtbmlafgolmmekabFits
import Derived.Test.YtbmlafgolmmekabMats
import Derived.Test.YtbmlafgolmmekabMatsRef
import Derived.Test.YtbmlafgolmmekabApply
import Derived.Test.YtbmlafgolmmekabWorks
import Derived.Test.YtbmlafgolmmekabPair
import Derived.Test.YtbmlafgolmmekabSame
import Derived.WalkKit
import Derived.ProofKit
import Derived.OpenShut
import Derived.Below
import Derived.WalkLawsBesides
import Derived.Deep.QuietTactic
import Derived.BigQuiet
import Derived.Lib.QuietBelow
import Derived.Deep.RegionHeld3
namespace Go.Proofs.Ytbmlafgolmmekab
open Go.ChangeShapes Go.WideShapes Go.ChangeAt Go.RowKit
open Go.Sort hiding Below
set_option linter.unusedVariables false
set_option linter.unusedSimpArgs false


def wM : AdV := shapeV 1 2 [1, 2, 3, 4, 5, 6, 7, 8]
theorem w_ok : okA 1 0 2 1 1 2 1 0 0 0 = true := by decide
theorem w_check : checkA 1 0 2 1 1 2 1 0 0 0 wM = 0 := shape_checked w_ok [1, 2, 3, 4, 5, 6, 7, 8] (by decide)
theorem w_flat : flatA wM = [1, 2, 3, 4, 5, 6, 7, 8] := flat_shape 1 2 [1, 2, 3, 4, 5, 6, 7, 8] rfl
def wT : ByteArray := encG 1 0 [1, 2, 3, 4, 5, 6, 7, 8]
theorem w_enc : encV 1 0 2 1 1 2 1 0 0 0 wM = wT := by unfold encV; rw [if_pos w_check, w_flat]; rfl
theorem w_size : wT.size = 18 := by unfold wT; rw [enc_size]; rfl

theorem works_apply (W : World) (p0 p1 p2 : Option Addr) (h0 : Reads .i8 W p0 2 [64, 0]) (h1 : Reads .i8 W p1 2 [64, 64]) (h2 : Reads .i64 W p2 2 [65536, 9]) :
    Calls Try.prog 12 #[.slice p0 2 2, .slice p1 2 2, .int .i64 1, .int .i64 1, .slice p2 2 2] W fun e w' => ∃ a c, e = .returned (.tuple #[.slice a 2 c, .int .i64 0]) ∧ Reads .i64 w' a 2 [32768, 32768] ∧ Below W.heap.size W w' := by
  refine (apply_call p0 2 2 [64, 0] p1 2 2 [64, 64] 1 1 p2 2 2 [65536, 9] W h0 (by decide) h1 (by decide) h2 (by decide) (by decide) (by decide) (by decide)).mono ?_
  rintro e w' ⟨a, m, c, he, hr, hb⟩
  have e1 : applR [64, 0] [64, 64] 1 1 [65536, 9] = [32768, 32768] := by decide
  have e2 : applE [64, 0] [64, 64] 1 [65536, 9] = 0 := by decide
  rw [e1] at hr
  rw [e2] at he
  have hm := hr.len
  have : m = 2 := hm.symm
  subst this
  exact ⟨a, c, he, hr, hb⟩

theorem works_shape (W : World) (s : SL) (hs : IsS W s [1, 2, 3, 4, 5, 6, 7, 8]) : Calls Try.prog 13 #[.int .i64 1, .int .i64 0, .agg #[.int .i64 2, .int .i64 1, .int .i64 1, .int .i64 2, .int .i64 1, .int .i64 0, .int .i64 0, .int .i64 0], .slice s.a s.n s.c] W fun e w' => ∃ (x0 : Addr) (c : Nat) (Y : Nat → Nat → SL), e = .returned (.tuple #[.agg #[.int .i64 1, .int .i64 0, .slice (some x0) 1 c], .int .i64 0]) ∧ NewA W.heap.size w' ⟨some x0, 1, c⟩ Y wM ∧ Below W.heap.size W w' := by
  refine (shape_call 1 0 2 1 1 2 1 0 0 0 s [1, 2, 3, 4, 5, 6, 7, 8] W hs).mono ?_
  rintro e w' ⟨L, Y, he, hN, hb⟩
  have o : shpOK 1 0 2 1 1 2 1 0 0 0 ([1, 2, 3, 4, 5, 6, 7, 8] : List Int).length = true := by decide
  have o2 : shpE 1 0 2 1 1 2 1 0 0 0 ([1, 2, 3, 4, 5, 6, 7, 8] : List Int).length = 0 := by decide
  have o3 : shpM 1 0 2 1 1 2 1 0 0 0 [1, 2, 3, 4, 5, 6, 7, 8] = wM := by unfold shpM; rw [if_pos o]; rfl
  rw [o, o2] at he
  rw [o3] at hN
  have n1 : L.n = 1 := hN.at_.len
  obtain ⟨x0, hx⟩ := hN.at_.some_ (by show 0 < 1; decide)
  obtain ⟨a, n, c⟩ := L
  have hx' : a = some x0 := hx
  have n1' : n = 1 := n1
  subst hx' n1'
  exact ⟨x0, c, Y, he, hN, hb⟩

theorem works_encode (W : World) (L : SL) (Y : Nat → Nat → SL) (hA : AdAt W L Y wM) : Calls Try.prog 7 #[.agg #[.int .i64 1, .int .i64 0, .slice L.a L.n L.c], .agg #[.int .i64 2, .int .i64 1, .int .i64 1, .int .i64 2, .int .i64 1, .int .i64 0, .int .i64 0, .int .i64 0]] W fun e w' => e = .returned (.tuple #[.string wT, .int .i64 0]) ∧ Below W.heap.size W w' := by
  have := encode_call 1 0 2 1 1 2 1 0 0 0 L Y wM W hA
  rwa [w_enc, w_check] at this

theorem works_decode (W : World) : Calls Try.prog 9 #[.string wT, .agg #[.int .i64 2, .int .i64 1, .int .i64 1, .int .i64 2, .int .i64 1, .int .i64 0, .int .i64 0, .int .i64 0]] W fun e w' => ∃ (L : SL) (Y : Nat → Nat → SL), e = .returned (.tuple #[.agg #[.int .i64 1, .int .i64 0, .slice L.a L.n L.c], .int .i64 0]) ∧ NewA W.heap.size w' L Y wM ∧ Below W.heap.size W w' := by
  have := decode_call 2 1 1 2 1 0 0 0 wT W (by rw [w_size]; decide)
  obtain ⟨-, d1, d2, d3, d4⟩ := dec_enc w_ok [1, 2, 3, 4, 5, 6, 7, 8] (by decide) (by decide)
  have e1 : decR 2 1 1 2 1 0 0 0 wT = 1 := d1
  have e2 : decS 2 1 1 2 1 0 0 0 wT = 0 := d2
  have e3 : decM 2 1 1 2 1 0 0 0 wT = wM := d3
  have e4 : decE 2 1 1 2 1 0 0 0 wT = 0 := d4
  rwa [e1, e2, e3, e4] at this

set_option maxHeartbeats 4000000 in
set_option maxRecDepth 20000 in
theorem works_call (w : World) : Calls Try.prog 4 #[] w fun e w' => e = .returned (.bool true) ∧ Below w.heap.size w w' := by
  -- the three rows of Apply
  obtain ⟨X1, eX1⟩ : ∃ X, w.alloc (.cells #[.int .i8 64, .int .i8 0] 41) = X := ⟨_, rfl⟩
  obtain ⟨X2, eX2⟩ : ∃ X, X1.alloc (.cells #[.int .i8 64, .int .i8 64] 41) = X := ⟨_, rfl⟩
  obtain ⟨X3, eX3⟩ : ∃ X, X2.alloc (.cells #[.int .i64 65536, .int .i64 9] 2) = X := ⟨_, rfl⟩
  have b1 : Below w.heap.size w X1 := eX1 ▸ below_new (Below.refl _ _) _
  have b2 : Below X1.heap.size X1 X2 := eX2 ▸ below_new (Below.refl _ _) _
  have b3 : Below X2.heap.size X2 X3 := eX3 ▸ below_new (Below.refl _ _) _
  have r1 : Reads .i8 X3 (some ⟨w.heap.size, 0, none⟩) 2 [64, 0] := ((eX1 ▸ lit2 .i8 w 41 w.heap.size rfl 64 0 (by decide) (by decide) : Reads .i8 X1 (some ⟨w.heap.size, 0, none⟩) 2 [64, 0]).below b2).below b3
  have r2 : Reads .i8 X3 (some ⟨X1.heap.size, 0, none⟩) 2 [64, 64] := (eX2 ▸ lit2 .i8 X1 41 X1.heap.size rfl 64 64 (by decide) (by decide) : Reads .i8 X2 (some ⟨X1.heap.size, 0, none⟩) 2 [64, 64]).below b3
  have r3 : Reads .i64 X3 (some ⟨X2.heap.size, 0, none⟩) 2 [65536, 9] := eX3 ▸ lit2 .i64 X2 2 X2.heap.size rfl 65536 9 (by decide) (by decide)
  have hb := below_then (below_then b1 b2) b3
  have ka := works_apply X3 _ _ _ r1 r2 r3
  clear r1 r2 r3 b1 b2 b3
  have kl : ∀ W : World, Reads .i8 (W.alloc (.cells #[.int .i8 1, .int .i8 2, .int .i8 3, .int .i8 4, .int .i8 5, .int .i8 6, .int .i8 7, .int .i8 8] 41)) (some ⟨W.heap.size, 0, none⟩) 8 [1, 2, 3, 4, 5, 6, 7, 8] := fun W =>
    Reads.of_row rfl (by decide) (by decide) fun i hi => by
      have q := Blk.new 41 W #[.int .i8 1, .int .i8 2, .int .i8 3, .int .i8 4, .int .i8 5, .int .i8 6, .int .i8 7, .int .i8 8]
      rw [add_at, Nat.zero_add]
      rcases (show i = 0 ∨ i = 1 ∨ i = 2 ∨ i = 3 ∨ i = 4 ∨ i = 5 ∨ i = 6 ∨ i = 7 by omega) with rfl | rfl | rfl | rfl | rfl | rfl | rfl | rfl
      · exact q.cell 0 rfl
      · exact q.cell 1 rfl
      · exact q.cell 2 rfl
      · exact q.cell 3 rfl
      · exact q.cell 4 rfl
      · exact q.cell 5 rfl
      · exact q.cell 6 rfl
      · exact q.cell 7 rfl
  have zT := w_size
  have ks := works_shape
  have ke := works_encode
  have kd := works_decode
  obtain ⟨TT, eTT⟩ : ∃ TT, wT = TT := ⟨_, rfl⟩
  rw [eTT] at zT
  simp only [eTT] at ke kd
  have seg3 : wM.f 0 3 = [7, 8] := rfl
  have l1 : wM.ln = 1 := rfl
  obtain ⟨m, em⟩ : ∃ m, wM = m := ⟨_, rfl⟩
  rw [em] at seg3 l1
  simp only [em] at ks ke kd
  clear eTT em
  have HL := hidden_ (And.intro seg3 l1)
  clear seg3 l1
  have kc : ∀ W : World, Below W.heap.size W (W.alloc (.cells #[.int .i64 2, .int .i64 1, .int .i64 1, .int .i64 2, .int .i64 1, .int .i64 0, .int .i64 0, .int .i64 0] 26)) ∧ Blk 26 (W.alloc (.cells #[.int .i64 2, .int .i64 1, .int .i64 1, .int .i64 2, .int .i64 1, .int .i64 0, .int .i64 0, .int .i64 0] 26)) W.heap.size #[.int .i64 2, .int .i64 1, .int .i64 1, .int .i64 2, .int .i64 1, .int .i64 0, .int .i64 0, .int .i64 0] := fun W => ⟨below_new (Below.refl _ _) _, Blk.new 26 W _⟩
  have KC := hidden_ kc
  have KL := hidden_ kl
  clear kc kl
  go_enter Try.func4, Try.ntmps4
  go_wp2_with (first
    | (go_at_call 12; refine ka.mono ?_; rintro e W1 ⟨a1, c1, rfl, r1, h1⟩; replace hb := below_then hb h1; clear h1 ka eX1 eX2 eX3; obtain ⟨bC, qC⟩ := KC.out W1; obtain ⟨q0, q1, q2, q3, q4, q5, q6, q7⟩ := qC.cfg; have bl := below_new (Below.refl (W1.alloc (.cells #[.int .i64 2, .int .i64 1, .int .i64 1, .int .i64 2, .int .i64 1, .int .i64 0, .int .i64 0, .int .i64 0] 26)).heap.size (W1.alloc (.cells #[.int .i64 2, .int .i64 1, .int .i64 1, .int .i64 2, .int .i64 1, .int .i64 0, .int .i64 0, .int .i64 0] 26))) (.cells #[.int .i8 1, .int .i8 2, .int .i8 3, .int .i8 4, .int .i8 5, .int .i8 6, .int .i8 7, .int .i8 8] 41); have rl := KL.out (W1.alloc (.cells #[.int .i64 2, .int .i64 1, .int .i64 1, .int .i64 2, .int .i64 1, .int .i64 0, .int .i64 0, .int .i64 0] 26)); rw [show (W1.alloc (.cells #[.int .i64 2, .int .i64 1, .int .i64 1, .int .i64 2, .int .i64 1, .int .i64 0, .int .i64 0, .int .i64 0] 26)).heap.size = W1.heap.size + 1 by simp] at rl; replace r1 := (r1.below bC).below bl; replace hb := below_then (below_then hb bC) bl; replace qC := qC.kept bl)
    | (go_at_call 13; refine (ks _ ⟨some ⟨W1.heap.size + 1, 0, none⟩, 8, 8⟩ ⟨rl, (fun h => by cases h), Nat.le_refl _⟩).mono ?_; rintro e W2 ⟨x0, cc, Y1, rfl, hN1, h1⟩; have b2 := below_new (Below.refl W2.heap.size W2) (.cells #[.int .i64 1, .int .i64 0, .slice (some x0) 1 cc] 24); have qa : Blk 24 (W2.alloc (.cells #[.int .i64 1, .int .i64 0, .slice (some x0) 1 cc] 24)) W2.heap.size #[.int .i64 1, .int .i64 0, .slice (some x0) 1 cc] := Blk.new 24 W2 _; obtain ⟨W3, eW3⟩ : ∃ W, W2.alloc (.cells #[.int .i64 1, .int .i64 0, .slice (some x0) 1 cc] 24) = W := ⟨_, rfl⟩; rw [eW3] at b2 qa; have ad1 := (hN1.below b2).at_; have b1 := below_then h1 b2; replace r1 := r1.below b1; replace hb := below_then hb b1; replace qC := qC.kept b1; clear h1 b1 b2 hN1 ks rl bl bC q0 q1 q2 q3 q4 q5 q6 q7; obtain ⟨q0, q1, q2, q3, q4, q5, q6, q7⟩ := qC.cfg; obtain ⟨u0, u1, u2⟩ := qa.c3)
    | (go_at_call 7; refine (ke _ ⟨some x0, 1, cc⟩ Y1 ad1).mono ?_; rintro e W4 ⟨rfl, h1⟩; replace r1 := r1.below h1; replace ad1 := ad1.below h1; replace hb := below_then hb h1; replace qC := qC.kept h1; replace qa := qa.kept h1; clear h1 ke q0 q1 q2 q3 q4 q5 q6 q7 u0 u1 u2 eW3; obtain ⟨q0, q1, q2, q3, q4, q5, q6, q7⟩ := qC.cfg)
    | (go_at_call 9; refine (kd _).mono ?_; rintro e W5 ⟨L2, Y2, rfl, hN2, h1⟩; have b2 := below_new (Below.refl W5.heap.size W5) (.cells #[.int .i64 1, .int .i64 0, .slice L2.a L2.n L2.c] 24); have qx : Blk 24 (W5.alloc (.cells #[.int .i64 1, .int .i64 0, .slice L2.a L2.n L2.c] 24)) W5.heap.size #[.int .i64 1, .int .i64 0, .slice L2.a L2.n L2.c] := Blk.new 24 W5 _; obtain ⟨W6, eW6⟩ : ∃ W, W5.alloc (.cells #[.int .i64 1, .int .i64 0, .slice L2.a L2.n L2.c] 24) = W := ⟨_, rfl⟩; rw [eW6] at b2 qx; have ad2 := (hN2.below b2).at_; have b1 := below_then h1 b2; replace r1 := r1.below b1; replace ad1 := ad1.below b1; replace hb := below_then hb b1; replace qa := qa.kept b1; clear h1 b1 b2 hN2 kd q0 q1 q2 q3 q4 q5 q6 q7; have b7 := below_new (Below.refl W6.heap.size W6) (.cells #[.int .i64 32768, .int .i64 32768] 2); have r7 := lit2 .i64 W6 2 W6.heap.size rfl 32768 32768 (by decide) (by decide); obtain ⟨W7, eW7⟩ : ∃ W, W6.alloc (.cells #[.int .i64 32768, .int .i64 32768] 2) = W := ⟨_, rfl⟩; rw [eW7] at b7 r7; replace r1 := r1.below b7; replace ad1 := ad1.below b7; replace ad2 := ad2.below b7; replace hb := below_then hb b7; replace qa := qa.kept b7; replace qx := qx.kept b7; clear b7)
    | (go_at_call 14; refine (same64_call _ _ _ [32768, 32768] _ _ _ _ r1 r7).mono ?_; rintro e W8 ⟨rfl, hd⟩; have b8 := below_drew (Below.refl W7.heap.size W7) hd; replace ad1 := ad1.below b8; replace ad2 := ad2.below b8; replace hb := below_then hb b8; replace qa := qa.kept b8; replace qx := qx.kept b8; clear hd b8 r1 r7; obtain ⟨u0, u1, u2⟩ := qa.c3; obtain ⟨y0, y1, y2⟩ := qx.c3)
    | (go_at_call 11; refine (sameA_call 1 0 L2 ⟨some x0, 1, cc⟩ Y2 Y1 m _ ad2 ad1 (by rw [HL.out.2]; decide)).mono ?_; rintro e W9 ⟨rfl, h1⟩; replace ad1 := ad1.below h1; replace hb := below_then hb h1; replace qa := qa.kept h1; clear h1 ad2 qx u0 u1 u2 y0 y1 y2 eW6 eW7; obtain ⟨u0, u1, u2⟩ := qa.c3; have cel := ad1.cell x0 rfl 0 (by rw [HL.out.2]; decide) 3 (by decide); have cel' : W9.cell? ⟨x0.block, x0.off + 3, none⟩ = some (.slice (Y1 0 3).a (Y1 0 3).n (Y1 0 3).c) := cel; have is3 := ad1.lay 0 (by rw [HL.out.2]; decide) 3 (by decide); rw [HL.out.1] at is3; have bA := below_new (Below.refl W9.heap.size W9) (.cells #[.int .i8 7, .int .i8 8] 41); have rA := lit2 .i8 W9 41 W9.heap.size rfl 7 8 (by decide) (by decide); obtain ⟨WA, eWA⟩ : ∃ W, W9.alloc (.cells #[.int .i8 7, .int .i8 8] 41) = W := ⟨_, rfl⟩; rw [eWA] at bA rA; replace is3 := is3.below bA; replace hb := below_then hb bA; clear cel bA)
    | (go_at_call 15; refine (same_call _ _ _ [7, 8] _ _ _ _ is3.reads rA).mono ?_; rintro e WB ⟨rfl, hd⟩; replace hb := below_drew hb hd; clear hd))
  go_ret
  exact ⟨rfl, hb⟩

end Go.Proofs.Ytbmlafgolmmekab

/- The library's insertion sort of a row of structs: a contract of the call, over whatever program bears it. -/
import Derived.Test.YteeljnibglnflaaRows
import Derived.Test.YteeljnibglnflaaBmSwap
namespace Go.Proofs.Yteeljnibglnflaa
set_option maxRecDepth 20000
open Go.Shelf Go.RowKit Go.Lib Go.Sort
set_option linter.unusedVariables false
variable {P : Program} {k : Nat}

set_option maxHeartbeats 4000000 in
set_option maxRecDepth 1000000 in
theorem insertion_call (L : SrtP P k) (enc : Nat → List Value) (cf : Nat → Nat → Int) (sc : Nat → Int) (hcf : ∀ x y, cf x y < 0 ↔ sc y < sc x) (g : Nat) (cb : Array Value) (blk off cap a b : Nat) (d0 d : Array Nat) (w0 w : World)
    (eg : ∀ args w, (callFunc g args).run P w = .ok (.enter g args) w) (hcmp : CmpLays P g cb enc k cf blk off d0.size w0)
    (R : RowK enc k w0 blk off d0) (hs : d0.size = d.size) (S : SWK enc k w0 blk off d w) (hab : a ≤ b) (hb : b ≤ d.size) (hsz : d.size < 1099511627776) (hO : EqO sc d a b) :
    Calls P 42 #[.slice (some ⟨blk, off, none⟩) d.size cap, .int .i64 a, .int .i64 b, .func (.func g) #[] cb] w fun e w' => e = .returned (.tuple #[]) ∧ ∃ dF : Array Nat, Mv a b d dF ∧ Srt sc dF a b ∧ SWK enc k w0 blk off dF w' := by
  have mixed := L.mixed; have t0 := L.t0; have a0 := L.a0; have z0 := L.z0; have v0 := L.v0; have t3 := L.t3; have a3 := L.a3; have z3 := L.z3; have v3 := L.v3; have t4 := L.t4; have a4 := L.a4; have z4 := L.z4; have v4 := L.v4; have t51 := L.t51; have a51 := L.a51; have z51 := L.z51; have v51 := L.v51; have t57 := L.t57; have a57 := L.a57; have z57 := L.z57; have v57 := L.v57; have aE := L.aE; have zE := L.zE
  have FG := L.f42
  have HC : Aside _ := hcmp
  have HF : Hid (∀ x y, cf x y < 0 ↔ sc y < sc x) := hcf
  have HO : Hid (EqO sc d a b) := hO
  have S0 : Aside (SWK enc k w0 blk off d w) := S
  clear hcmp hcf hO S L
  go_enter FG, Try.ntmps42
  go_wp2
  go_loopg [8] (b - a) (fun g1 vi wr => ∃ (i : Nat) (dk : Array Nat), vi = .int .i64 i ∧ a < i ∧ i ≤ b + 1 ∧ b + 1 - i ≤ g1 + 1 ∧ dk.size = d.size ∧ Aside (SWK enc k w0 blk off dk wr) ∧ Hid (Mv a (min i b) d dk ∧ Srt sc dk a (min i b)))
  case atStart => exact ⟨a + 1, d, by go_num, by omega, by omega, by omega, rfl, S0, Mv.refl _ _ _, fun i j h1 h2 h3 => by omega⟩
  case round =>
    clear S0
    obtain ⟨i, dk, rfl, hai, hib, hg1, hsk, S1, HM⟩ := hrel
    by_cases hlt : i < b
    · have hltz : (i : Int) < (b : Int) := by omega
      have hI : Hid (Mv a (i + 1) d dk ∧ Ins sc a i i dk) := by
        have h := HM.out
        rw [show min i b = i by omega] at h
        refine ⟨h.1.mono (Nat.le_refl _) (by omega), Ins.start h.2 fun p q h1 h2 h3 e => ?_⟩
        by_cases hq : q < i
        · exact h.2.eqO p q h1 h2 hq e
        · obtain rfl : q = i := by omega
          obtain ⟨y, y1, y2, ey⟩ := h.1.from_ p h1 h2
          rw [ey, h.1.out q (by omega)] at e ⊢
          exact HO.out y q y1 (by omega) hlt e
      clear HM
      go_wp2
      -- the inner loop
      go_loopg [9] i (fun g2 vj wr2 => ∃ (j : Nat) (dj : Array Nat), vj = .int .i64 j ∧ a ≤ j ∧ j ≤ i ∧ j ≤ g2 ∧ dj.size = d.size ∧ Aside (SWK enc k w0 blk off dj wr2) ∧ Hid (Mv a (i + 1) d dj ∧ Ins sc a j i dj))
      case atStart => exact ⟨i, dk, rfl, by omega, Nat.le_refl _, Nat.le_refl _, hsk, S1, hI⟩
      case round =>
        clear S1 hI
        obtain ⟨j, dj, rfl, haj, hji, hg2, hsj, S1, HI⟩ := hrel
        by_cases hja : a < j
        · obtain ⟨jp, rfl⟩ : ∃ jp, j = jp + 1 := ⟨j - 1, by omega⟩
          have hjaz' : (a : Int) < (jp : Int) + 1 := by omega
          have ea : ((jp : Int) + 1).toNat = jp + 1 := by omega
          have pa : (0 : Int) ≤ (jp : Int) + 1 := by omega
          have ba : (jp : Int) + 1 < (d.size : Int) := by omega
          have bc : (jp : Int) < (d.size : Int) := by omega
          have rc : IntKind.i64.wrap ((jp : Int)) = (jp : Int) := by rw [IntKind.wrap_i64]; omega
          obtain ⟨x, hx⟩ : ∃ x, x = dj[jp + 1]! := ⟨_, rfl⟩
          obtain ⟨y, hy⟩ : ∃ x, x = dj[jp]! := ⟨_, rfl⟩
          have la := S1.out.ld R (by omega) P (jp + 1) (by omega)
          have lb := S1.out.ld R (by omega) P jp (by omega)
          rw [← hx] at la
          rw [← hy] at lb
          have hc := S1.out.cmp HC.out (by omega) x y
          by_cases hlv : cf x y < 0
          · have hd : decide (cf x y < 0) = true := decide_eq_true hlv
            have hst : Hid (Mv a (i + 1) d (swp dj (jp + 1) jp) ∧ Ins sc a jp i (swp dj (jp + 1) jp)) :=
              ⟨HI.out.1.trans (Mv.swp dj (by omega) (by omega) (by omega) (by omega)), HI.out.2.step (by rw [← hx, ← hy]; exact (HF.out x y).1 hlv) (by omega) hji (by omega)⟩
            have HX : Hid (x = dj[jp + 1]! ∧ y = dj[jp]!) := ⟨hx, hy⟩
            clear hx hy HI
            go_wp2_with fail
            go_quiet_grown (first | (go_at_fn g; refine Calls.grown_of (hc _ _)))
            have S2 : Aside (SWK enc k w0 blk off dj (grow (wr.drewN nq) osq)) := S1.out.grown nq osq
            clear la lb hc S1
            generalize grow (wr.drewN nq) osq = w2 at S2 ⊢
            clear nq osq
            go_wp2_with fail
            have S3 : Aside (SWK enc k w0 blk off (swp dj (jp + 1) jp) ((w2.drew.setCells blk (off + (jp + 1) * k) (enc dj[jp]!)).setCells blk (off + jp * k) (enc dj[jp + 1]!))) := S2.out.swapped R (jp + 1) jp (by omega) (by omega)
            have la := S2.out.ld1 R (by omega) P (jp + 1) (by omega)
            have lb := S2.out.ld1 R (by omega) P jp (by omega)
            have sa := S2.out.st1 R (by omega) P (jp + 1) (by omega) dj[jp]!
            have sb := S2.out.st2 R (by omega) P (jp + 1) jp (by omega) (by omega) dj[jp]! dj[jp + 1]!
            have na : (enc dj[jp + 1]!).length = k := R.hk _
            have nb : (enc dj[jp]!).length = k := R.hk _
            generalize enc dj[jp + 1]! = cI at S3 la sb na
            generalize enc dj[jp]! = cJ at S3 lb sa sb nb
            clear S2
            go_wp2_with fail
            go_big_region_o
            clear la lb sa sb
            generalize (w2.drew.setCells blk (off + (jp + 1) * k) cJ).setCells blk (off + jp * k) cI = w3 at S3 ⊢
            go_wp2
            go_roundg jp
            case measure => omega
            case rel => exact ⟨jp, _, by first | rfl | go_num | (congr 1; omega), by omega, by omega, Nat.le_refl _, by rw [swp_size]; exact hsj, S3, hst⟩
          · have hd : decide (cf x y < 0) = false := decide_eq_false hlv
            have hst : Hid (Mv a (min (i + 1) b) d dj ∧ Srt sc dj a (min (i + 1) b)) := by
              rw [show min (i + 1) b = i + 1 by omega]
              exact ⟨HI.out.1, HI.out.2.stop (.inr ⟨jp, rfl, by omega, by rw [← hx, ← hy]; exact fun h => hlv ((HF.out x y).2 h)⟩) hji⟩
            clear hx hy HI
            go_wp2_with fail
            go_quiet_grown (first | (go_at_fn g; refine Calls.grown_of (hc _ _)))
            have S2 : Aside (SWK enc k w0 blk off dj (grow (wr.drewN nq) osq)) := S1.out.grown nq osq
            clear la lb hc S1
            generalize grow (wr.drewN nq) osq = w2 at S2 ⊢
            clear nq osq
            go_wp2
            go_roundg (b - (i + 1))
            case measure => omega
            case rel => exact ⟨i + 1, dj, by go_num, by omega, by omega, by omega, hsj, S2, hst⟩
        · have hjaz : decide ((j : Int) > (a : Int)) = false := decide_eq_false (by omega)
          have hjaz' : ¬ (a : Int) < (j : Int) := by omega
          have hst : Hid (Mv a (min (i + 1) b) d dj ∧ Srt sc dj a (min (i + 1) b)) := by
            rw [show min (i + 1) b = i + 1 by omega]
            exact ⟨HI.out.1, HI.out.2.stop (.inl (by omega)) hji⟩
          have S2 : Aside (SWK enc k w0 blk off dj wr.drew) := S1.out.drew
          clear S1 HI
          go_wp2_with fail
          go_big_region_o
          all_goals go_wp2
          go_roundg (b - (i + 1))
          case measure => omega
          case rel => exact ⟨i + 1, dj, by go_num, by omega, by omega, by omega, hsj, S2, hst⟩
    · have hltz : ¬ (i : Int) < (b : Int) := by omega
      have hst := HM.out
      rw [show min i b = b by omega] at hst
      go_wp2
      go_end0
      exact ⟨rfl, dk, hst.1, hst.2, S1.out⟩

end Go.Proofs.Yteeljnibglnflaa

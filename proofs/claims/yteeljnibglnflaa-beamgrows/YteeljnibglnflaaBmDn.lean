/- The library's merge in place where the second part has one member: a contract of the call, over whatever program bears it. -/
import Derived.Test.YteeljnibglnflaaRows
import Derived.Test.YteeljnibglnflaaBmSwap
import Derived.Test.YteeljnibglnflaaBmMrgZ
namespace Go.Proofs.Yteeljnibglnflaa
set_option maxRecDepth 20000
open Go.Shelf Go.RowKit Go.Lib Go.Sort
set_option linter.unusedVariables false
variable {P : Program} {k : Nat}

set_option maxHeartbeats 4000000 in
set_option maxRecDepth 1000000 in
theorem symDn_call (L : SrtP P k) (enc : Nat → List Value) (cf : Nat → Nat → Int) (sc : Nat → Int) (hcf : ∀ x y, cf x y < 0 ↔ sc y < sc x) (g : Nat) (cb : Array Value) (blk off cap a m b : Nat) (d0 d : Array Nat) (w0 w : World)
    (eg : ∀ args w, (callFunc g args).run P w = .ok (.enter g args) w) (hcmp : CmpLays P g cb enc k cf blk off d0.size w0)
    (R : RowK enc k w0 blk off d0) (hs : d0.size = d.size) (S : SWK enc k w0 blk off d w) (ham : a < m) (hmb : m < b) (hb : b ≤ d.size) (hsz : d.size < 1099511627776) (hT : Two sc d a m b) (hone : b = m + 1) (hnot : a + 1 < m) :
    Calls P 43 #[.slice (some ⟨blk, off, none⟩) d.size cap, .int .i64 a, .int .i64 m, .int .i64 b, .func (.func g) #[] cb] w fun e w' => e = .returned (.tuple #[]) ∧ ∃ dF : Array Nat, Mv a b d dF ∧ Srt sc dF a b ∧ SWK enc k w0 blk off dF w' := by
  have mixed := L.mixed; have t0 := L.t0; have a0 := L.a0; have z0 := L.z0; have v0 := L.v0; have t3 := L.t3; have a3 := L.a3; have z3 := L.z3; have v3 := L.v3; have t4 := L.t4; have a4 := L.a4; have z4 := L.z4; have v4 := L.v4; have t51 := L.t51; have a51 := L.a51; have z51 := L.z51; have v51 := L.v51; have t57 := L.t57; have a57 := L.a57; have z57 := L.z57; have v57 := L.v57; have t74 := L.t74; have a74 := L.a74; have z74 := L.z74; have v74 := L.v74; have aE := L.aE; have zE := L.zE
  have FG := L.f43
  have HC : Aside _ := hcmp
  have HF : Hid (∀ x y, cf x y < 0 ↔ sc y < sc x) := hcf
  have HT : Hid (Two sc d a m b) := hT
  have S0 : Aside (SWK enc k w0 blk off d w) := S
  clear hcmp hcf hT S L
  have t1 : ¬ (m : Int) - (a : Int) = 1 := by omega
  have t2 : (b : Int) - (m : Int) = 1 := by omega
  obtain ⟨ma, ema⟩ : ∃ ma, m - a = ma := ⟨_, rfl⟩
  have zma : (m : Int) - (a : Int) = (ma : Int) := by omega
  have tma : ((ma : Int) == 1) = false := by simp; omega
  have bma : (ma : Int) < (d.size : Int) := by omega
  have em : ((m : Nat) : Int).toNat = m := by omega
  have pm : (0 : Int) ≤ ((m : Nat) : Int) := by omega
  have bm : ((m : Nat) : Int) < (d.size : Int) := by omega
  have rm : IntKind.i64.wrap (((m : Nat) : Int)) = ((m : Nat) : Int) := by rw [IntKind.wrap_i64]; omega
  have HN : Hid (b = m + 1) := hone
  clear t1 hone
  go_enter FG, Try.ntmps43
  go_wp2
  clear tma zma t2
  go_loopg [14, 15] (m - a) (fun kx s14 s15 wr => ∃ (i j : Nat), s14 = .int .i64 i ∧ s15 = .int .i64 j ∧ a ≤ i ∧ i ≤ j ∧ j ≤ m ∧ j - i ≤ kx ∧ Aside (SWK enc k w0 blk off d wr) ∧ Hid (i = a ∨ ¬ sc d[i - 1]! < sc d[m]!) ∧ Hid (j = m ∨ sc d[j]! < sc d[m]!))
  case atStart => exact ⟨a, m, rfl, rfl, Nat.le_refl _, by omega, Nat.le_refl _, Nat.le_refl _, S0, .inl rfl, .inl rfl⟩
  case round =>
    clear S0
    obtain ⟨i, j, rfl, rfl, hmi, hij, hjb, hkx, S1, HL, HH⟩ := hrel
    by_cases hlt : i < j
    · have hltz : (i : Int) < (j : Int) := by omega
      obtain ⟨sm, esm⟩ : ∃ sm, i + j = sm := ⟨_, rfl⟩
      obtain ⟨h, eh⟩ : ∃ h, sm / 2 = h := ⟨_, rfl⟩
      have zsm : (i : Int) + (j : Int) = (sm : Int) := by omega
      have zsh : (sm : Int) / 2 = (h : Int) := by omega
      have us : IntKind.u64.wrap (sm : Int) = (sm : Int) := by rw [IntKind.wrap_u64]; omega
      have uh : IntKind.u64.wrap (h : Int) = (h : Int) := by rw [IntKind.wrap_u64]; omega
      have hb0 : sm < 4611686018427387904 := by omega
      have eh : ((h : Nat) : Int).toNat = h := by omega
      have ph : (0 : Int) ≤ ((h : Nat) : Int) := by omega
      have bh : ((h : Nat) : Int) < (d.size : Int) := by omega
      have rh : IntKind.i64.wrap (((h : Nat) : Int)) = ((h : Nat) : Int) := by rw [IntKind.wrap_i64]; omega
      obtain ⟨vx, hx⟩ : ∃ v, v = d[m]! := ⟨_, rfl⟩
      obtain ⟨vy, hy⟩ : ∃ v, v = d[h]! := ⟨_, rfl⟩
      have la := S1.out.ld R (by omega) P m (by omega)
      have lb := S1.out.ld R (by omega) P h (by omega)
      rw [← hx] at la
      rw [← hy] at lb
      have hc := S1.out.cmp HC.out (by omega) vx vy
      by_cases hlv : cf vx vy < 0
      · have hd : decide (cf vx vy < 0) = true := decide_eq_true hlv
        have hst : Hid (h = m ∨ sc d[h]! < sc d[m]!) := .inr (by rw [← hx, ← hy]; exact (HF.out vx vy).1 hlv)
        clear hx hy
        go_wp2_with fail
        go_quiet_grown (first | (go_at_fn g; refine Calls.grown_of (hc _ _)))
        have S2 : Aside (SWK enc k w0 blk off d (grow (wr.drewN nq) osq)) := S1.out.grown nq osq
        clear la lb hc S1
        generalize grow (wr.drewN nq) osq = w2 at S2 ⊢
        clear nq osq
        go_wp2
        go_roundg (h - i)
        case measure => omega
        case rel => exact ⟨i, h, rfl, rfl, hmi, by omega, by omega, Nat.le_refl _, S2, HL, hst⟩
      · have hd : decide (cf vx vy < 0) = false := decide_eq_false hlv
        have hst : Hid (h + 1 = a ∨ ¬ sc d[h + 1 - 1]! < sc d[m]!) := .inr (by rw [Nat.add_sub_cancel, ← hx, ← hy]; exact fun hh => hlv ((HF.out vx vy).2 hh))
        clear hx hy
        go_wp2_with fail
        go_quiet_grown (first | (go_at_fn g; refine Calls.grown_of (hc _ _)))
        have S2 : Aside (SWK enc k w0 blk off d (grow (wr.drewN nq) osq)) := S1.out.grown nq osq
        clear la lb hc S1
        generalize grow (wr.drewN nq) osq = w2 at S2 ⊢
        clear nq osq
        go_wp2
        go_roundg (j - (h + 1))
        case measure => omega
        case rel => exact ⟨h + 1, j, by go_num, rfl, by omega, by omega, hjb, Nat.le_refl _, S2, hst, HH⟩
    · obtain rfl : j = i := by omega
      have hltz : ¬ (j : Int) < (j : Int) := by omega
      have fin : Hid (∀ dk : Array Nat, (∀ x, dk[x]! = d[dnI m j x]!) → Srt sc dk a b) := by
        show ∀ dk : Array Nat, (∀ x, dk[x]! = d[dnI m j x]!) → Srt sc dk a b
        intro dk h
        have hone := HN.out
        have ht := HT.out
        clear HN HT
        subst hone
        exact dn_srt ht hmi hjb HL.out HH.out h
      clear HL HH
      go_wp2
      go_loopg [17] (m - j) (fun kx s17 wr => ∃ (q : Nat) (dk : Array Nat), s17 = .int .i64 q ∧ j ≤ q ∧ q ≤ m ∧ q - j ≤ kx ∧ dk.size = d.size ∧ Aside (SWK enc k w0 blk off dk wr) ∧ Hid (∀ x, dk[x]! = d[dnI m q x]!))
      case atStart => exact ⟨m, d, rfl, by omega, Nat.le_refl _, Nat.le_refl _, rfl, S1, fun x => by rw [dnI_start]⟩
      case round =>
        clear S1
        obtain ⟨q, dk, rfl, haq, hql, hkx, hsk, S1, HQ⟩ := hrel
        by_cases hlt2 : j < q
        · obtain ⟨qp, rfl⟩ : ∃ qp, q = qp + 1 := ⟨q - 1, by omega⟩
          have hltz2 : (j : Int) < (qp : Int) + 1 := by omega
          have ea1 : ((qp : Int) + 1).toNat = qp + 1 := by omega
          have pa1 : (0 : Int) ≤ (qp : Int) + 1 := by omega
          have ba1 : (qp : Int) + 1 < (d.size : Int) := by omega
          have bq : (qp : Int) < (d.size : Int) := by omega
          have rq : IntKind.i64.wrap (qp : Int) = (qp : Int) := by rw [IntKind.wrap_i64]; omega
          have hst : Hid (∀ x, (swp dk (qp + 1) qp)[x]! = d[dnI m qp x]!) := dn_step hql hsk (by omega) HQ.out
          clear HQ
          have S2 : Aside (SWK enc k w0 blk off (swp dk (qp + 1) qp) ((wr.drew.setCells blk (off + (qp + 1) * k) (enc dk[qp]!)).setCells blk (off + qp * k) (enc dk[(qp + 1)]!))) := S1.out.swapped R (qp + 1) qp (by omega) (by omega)
          have la := S1.out.ld1 R (by omega) P (qp + 1) (by omega)
          have lb := S1.out.ld1 R (by omega) P qp (by omega)
          have sa := S1.out.st1 R (by omega) P (qp + 1) (by omega) dk[qp]!
          have sb := S1.out.st2 R (by omega) P (qp + 1) qp (by omega) (by omega) dk[qp]! dk[(qp + 1)]!
          have na : (enc dk[(qp + 1)]!).length = k := R.hk _
          have nb : (enc dk[qp]!).length = k := R.hk _
          generalize enc dk[(qp + 1)]! = cI at S2 la sb na
          generalize enc dk[qp]! = cJ at S2 lb sa sb nb
          clear S1
          go_wp2_with fail
          go_big_region_o
          clear la lb sa sb
          generalize (wr.drew.setCells blk (off + (qp + 1) * k) cJ).setCells blk (off + qp * k) cI = w2 at S2 ⊢
          go_wp2
          go_roundg (qp - j)
          case measure => omega
          case rel => exact ⟨qp, _, by first | rfl | go_num | (congr 1; omega), by omega, by omega, Nat.le_refl _, by rw [swp_size]; exact hsk, S2, hst⟩
        · obtain rfl : q = j := by omega
          have hltz2 : ¬ (q : Int) < (q : Int) := by omega
          have mv : Mv a b d dk := by rw [HN.out]; exact dn_mv (by omega) hql hsk HQ.out
          go_wp2
          (try simp only [Exit.inBlock, Exit.then]); refine bodyPost_ret (results_none rfl _ _ _) rfl ?_
          exact ⟨rfl, dk, mv, fin.out dk HQ.out, S1.out⟩

end Go.Proofs.Yteeljnibglnflaa

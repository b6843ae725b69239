/- The library's merge in place where the first part has one member: a contract of the call, over whatever program bears it. -/
import Derived.Test.YteeljnibglnflaaRows
import Derived.Test.YteeljnibglnflaaBmSwap
import Derived.Test.YteeljnibglnflaaBmMrgZ
namespace Go.Proofs.Yteeljnibglnflaa
set_option maxRecDepth 20000
open Go.Shelf Go.RowKit Go.Lib Go.Sort
set_option linter.unusedVariables false
variable {P : Program} {k : Nat}

set_option maxHeartbeats 4000000 in
set_option maxRecDepth 1000000 in
theorem symUp_call (L : SrtP P k) (enc : Nat → List Value) (cf : Nat → Nat → Int) (sc : Nat → Int) (hcf : ∀ x y, cf x y < 0 ↔ sc y < sc x) (g : Nat) (cb : Array Value) (blk off cap a m b : Nat) (d0 d : Array Nat) (w0 w : World)
    (eg : ∀ args w, (callFunc g args).run P w = .ok (.enter g args) w) (hcmp : CmpLays P g cb enc k cf blk off d0.size w0)
    (R : RowK enc k w0 blk off d0) (hs : d0.size = d.size) (S : SWK enc k w0 blk off d w) (ham : a < m) (hmb : m < b) (hb : b ≤ d.size) (hsz : d.size < 1099511627776) (hT : Two sc d a m b) (hone : m = a + 1) :
    Calls P 43 #[.slice (some ⟨blk, off, none⟩) d.size cap, .int .i64 a, .int .i64 m, .int .i64 b, .func (.func g) #[] cb] w fun e w' => e = .returned (.tuple #[]) ∧ ∃ dF : Array Nat, Mv a b d dF ∧ Srt sc dF a b ∧ SWK enc k w0 blk off dF w' := by
  have mixed := L.mixed; have t0 := L.t0; have a0 := L.a0; have z0 := L.z0; have v0 := L.v0; have t3 := L.t3; have a3 := L.a3; have z3 := L.z3; have v3 := L.v3; have t4 := L.t4; have a4 := L.a4; have z4 := L.z4; have v4 := L.v4; have t51 := L.t51; have a51 := L.a51; have z51 := L.z51; have v51 := L.v51; have t57 := L.t57; have a57 := L.a57; have z57 := L.z57; have v57 := L.v57; have t74 := L.t74; have a74 := L.a74; have z74 := L.z74; have v74 := L.v74; have aE := L.aE; have zE := L.zE
  have FG := L.f43
  have HC : Aside _ := hcmp
  have HF : Hid (∀ x y, cf x y < 0 ↔ sc y < sc x) := hcf
  have HT : Hid (Two sc d a m b) := hT
  have S0 : Aside (SWK enc k w0 blk off d w) := S
  clear hcmp hcf hT S L
  have t1 : (m : Int) - (a : Int) = 1 := by omega
  have ea : ((a : Nat) : Int).toNat = a := by omega
  have pa : (0 : Int) ≤ ((a : Nat) : Int) := by omega
  have ba : ((a : Nat) : Int) < (d.size : Int) := by omega
  have ra : IntKind.i64.wrap (((a : Nat) : Int)) = ((a : Nat) : Int) := by rw [IntKind.wrap_i64]; omega
  have HN : Hid (m = a + 1) := hone
  clear hone
  go_enter FG, Try.ntmps43
  go_wp2
  clear t1
  go_loopg [10, 11] (b - m) (fun kx s10 s11 wr => ∃ (i j : Nat), s10 = .int .i64 i ∧ s11 = .int .i64 j ∧ m ≤ i ∧ i ≤ j ∧ j ≤ b ∧ j - i ≤ kx ∧ Aside (SWK enc k w0 blk off d wr) ∧ Hid (i = m ∨ sc d[a]! < sc d[i - 1]!) ∧ Hid (j = b ∨ ¬ sc d[a]! < sc d[j]!))
  case atStart => exact ⟨m, b, rfl, rfl, Nat.le_refl _, by omega, Nat.le_refl _, Nat.le_refl _, S0, .inl rfl, .inl rfl⟩
  case round =>
    clear S0
    obtain ⟨i, j, rfl, rfl, hmi, hij, hjb, hkx, S1, HL, HH⟩ := hrel
    by_cases hlt : i < j
    · have hltz : (i : Int) < (j : Int) := by omega
      obtain ⟨sm, esm⟩ : ∃ sm, i + j = sm := ⟨_, rfl⟩
      obtain ⟨h, eh⟩ : ∃ h, sm / 2 = h := ⟨_, rfl⟩
      have zsm : (i : Int) + (j : Int) = (sm : Int) := by omega
      have zsh : (sm : Int) / 2 = (h : Int) := by omega
      have us : IntKind.u64.wrap (sm : Int) = (sm : Int) := by rw [IntKind.wrap_u64]; omega
      have uh : IntKind.u64.wrap (h : Int) = (h : Int) := by rw [IntKind.wrap_u64]; omega
      have hb0 : sm < 4611686018427387904 := by omega
      have eh : ((h : Nat) : Int).toNat = h := by omega
      have ph : (0 : Int) ≤ ((h : Nat) : Int) := by omega
      have bh : ((h : Nat) : Int) < (d.size : Int) := by omega
      have rh : IntKind.i64.wrap (((h : Nat) : Int)) = ((h : Nat) : Int) := by rw [IntKind.wrap_i64]; omega
      obtain ⟨vx, hx⟩ : ∃ v, v = d[h]! := ⟨_, rfl⟩
      obtain ⟨vy, hy⟩ : ∃ v, v = d[a]! := ⟨_, rfl⟩
      have la := S1.out.ld R (by omega) P h (by omega)
      have lb := S1.out.ld R (by omega) P a (by omega)
      rw [← hx] at la
      rw [← hy] at lb
      have hc := S1.out.cmp HC.out (by omega) vx vy
      by_cases hlv : cf vx vy < 0
      · have hd : decide (cf vx vy < 0) = true := decide_eq_true hlv
        have hst : Hid (h + 1 = m ∨ sc d[a]! < sc d[h + 1 - 1]!) := .inr (by rw [Nat.add_sub_cancel, ← hx, ← hy]; exact (HF.out vx vy).1 hlv)
        clear hx hy
        go_wp2_with fail
        go_quiet_grown (first | (go_at_fn g; refine Calls.grown_of (hc _ _)))
        have S2 : Aside (SWK enc k w0 blk off d (grow (wr.drewN nq) osq)) := S1.out.grown nq osq
        clear la lb hc S1
        generalize grow (wr.drewN nq) osq = w2 at S2 ⊢
        clear nq osq
        go_wp2
        go_roundg (j - (h + 1))
        case measure => omega
        case rel => exact ⟨h + 1, j, by go_num, rfl, by omega, by omega, hjb, Nat.le_refl _, S2, hst, HH⟩
      · have hd : decide (cf vx vy < 0) = false := decide_eq_false hlv
        have hst : Hid (h = b ∨ ¬ sc d[a]! < sc d[h]!) := .inr (by rw [← hx, ← hy]; exact fun hh => hlv ((HF.out vx vy).2 hh))
        clear hx hy
        go_wp2_with fail
        go_quiet_grown (first | (go_at_fn g; refine Calls.grown_of (hc _ _)))
        have S2 : Aside (SWK enc k w0 blk off d (grow (wr.drewN nq) osq)) := S1.out.grown nq osq
        clear la lb hc S1
        generalize grow (wr.drewN nq) osq = w2 at S2 ⊢
        clear nq osq
        go_wp2
        go_roundg (h - i)
        case measure => omega
        case rel => exact ⟨i, h, rfl, rfl, hmi, by omega, by omega, Nat.le_refl _, S2, HL, hst⟩
    · obtain rfl : j = i := by omega
      have hltz : ¬ (j : Int) < (j : Int) := by omega
      obtain ⟨l, el⟩ : ∃ l, j - 1 = l := ⟨_, rfl⟩
      have zl : (j : Int) - 1 = (l : Int) := by omega
      have fin : Hid (∀ dk : Array Nat, (∀ x, dk[x]! = d[upI a l x]!) → Srt sc dk a b) := by
        show ∀ dk : Array Nat, (∀ x, dk[x]! = d[upI a l x]!) → Srt sc dk a b
        intro dk h
        have hone := HN.out
        have ht := HT.out
        have hl := HL.out
        clear HN HT HL
        subst hone
        exact up_srt ht hmi hjb hl HH.out (by rw [el]; exact h)
      clear HL HH el
      go_wp2
      go_loopg [13] (l - a) (fun kx s13 wr => ∃ (q : Nat) (dk : Array Nat), s13 = .int .i64 q ∧ a ≤ q ∧ q ≤ l ∧ l - q ≤ kx ∧ dk.size = d.size ∧ Aside (SWK enc k w0 blk off dk wr) ∧ Hid (∀ x, dk[x]! = d[upI a q x]!))
      case atStart => exact ⟨a, d, rfl, Nat.le_refl _, by omega, Nat.le_refl _, rfl, S1, fun x => by rw [upI_start]⟩
      case round =>
        clear S1
        obtain ⟨q, dk, rfl, haq, hql, hkx, hsk, S1, HQ⟩ := hrel
        by_cases hlt2 : q < l
        · have hltz2 : (q : Int) < (l : Int) := by omega
          have ea1 : ((q : Int) + 1).toNat = q + 1 := by omega
          have pa1 : (0 : Int) ≤ (q : Int) + 1 := by omega
          have ba1 : (q : Int) + 1 < (d.size : Int) := by omega
          have bq : (q : Int) < (d.size : Int) := by omega
          have ra1 : IntKind.i64.wrap ((q : Int) + 1) = (q : Int) + 1 := by rw [IntKind.wrap_i64]; omega
          have hst : Hid (∀ x, (swp dk q (q + 1))[x]! = d[upI a (q + 1) x]!) := up_step haq hsk (by omega) HQ.out
          clear HQ
          have S2 : Aside (SWK enc k w0 blk off (swp dk q (q + 1)) ((wr.drew.setCells blk (off + q * k) (enc dk[(q + 1)]!)).setCells blk (off + (q + 1) * k) (enc dk[q]!))) := S1.out.swapped R q (q + 1) (by omega) (by omega)
          have la := S1.out.ld1 R (by omega) P q (by omega)
          have lb := S1.out.ld1 R (by omega) P (q + 1) (by omega)
          have sa := S1.out.st1 R (by omega) P q (by omega) dk[(q + 1)]!
          have sb := S1.out.st2 R (by omega) P q (q + 1) (by omega) (by omega) dk[(q + 1)]! dk[q]!
          have na : (enc dk[q]!).length = k := R.hk _
          have nb : (enc dk[(q + 1)]!).length = k := R.hk _
          generalize enc dk[q]! = cI at S2 la sb na
          generalize enc dk[(q + 1)]! = cJ at S2 lb sa sb nb
          clear S1
          go_wp2_with fail
          go_big_region_o
          clear la lb sa sb
          generalize (wr.drew.setCells blk (off + q * k) cJ).setCells blk (off + (q + 1) * k) cI = w2 at S2 ⊢
          go_wp2
          go_roundg (l - (q + 1))
          case measure => omega
          case rel => exact ⟨q + 1, _, by go_num, by omega, by omega, Nat.le_refl _, by rw [swp_size]; exact hsk, S2, hst⟩
        · obtain rfl : q = l := by omega
          have hltz2 : ¬ (q : Int) < (q : Int) := by omega
          go_wp2
          (try simp only [Exit.inBlock, Exit.then]); refine bodyPost_ret (results_none rfl _ _ _) rfl ?_
          exact ⟨rfl, dk, up_mv haq (by omega) hsk HQ.out, fin.out dk HQ.out, S1.out⟩

end Go.Proofs.Yteeljnibglnflaa

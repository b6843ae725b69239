/- The library's stable sort of a row of structs: contracts of the calls, over whatever program bears them. -/
import Derived.Test.YteeljnibglnflaaRows
import Derived.Test.YteeljnibglnflaaBmBlkZ
import Derived.Test.YteeljnibglnflaaBmIns
import Derived.Test.YteeljnibglnflaaBmUp
import Derived.Test.YteeljnibglnflaaBmDn
import Derived.Test.YteeljnibglnflaaBmSymH
import Derived.Test.YteeljnibglnflaaBmSymL
namespace Go.Proofs.Yteeljnibglnflaa
set_option maxRecDepth 20000
open Go.Shelf Go.RowKit Go.Lib Go.Sort
set_option linter.unusedVariables false
variable {P : Program} {k : Nat}

theorem symMerge_call (L : SrtP P k) (enc : Nat → List Value) (cf : Nat → Nat → Int) (sc : Nat → Int) (hcf : ∀ x y, cf x y < 0 ↔ sc y < sc x) (g : Nat) (cb : Array Value) (blk off cap : Nat) (d0 : Array Nat) (w0 : World)
    (eg : ∀ args w, (callFunc g args).run P w = .ok (.enter g args) w) (hcmp : CmpLays P g cb enc k cf blk off d0.size w0) (R : RowK enc k w0 blk off d0) (hsz : d0.size < 1099511627776) :
    ∀ (N a m b : Nat) (d : Array Nat) (w : World), b - a ≤ N → d.size = d0.size → SWK enc k w0 blk off d w → a < m → m < b → b ≤ d0.size → Two sc d a m b →
    Calls P 43 #[.slice (some ⟨blk, off, none⟩) d0.size cap, .int .i64 a, .int .i64 m, .int .i64 b, .func (.func g) #[] cb] w fun e w' => e = .returned (.tuple #[]) ∧ ∃ dF : Array Nat, Mv a b d dF ∧ Srt sc dF a b ∧ SWK enc k w0 blk off dF w' := by
  intro N
  induction N with
  | zero => intro a m b d w h1 h2 h3 h4 h5; omega
  | succ N ih =>
    intro a m b d w hN hs S ham hmb hb hT
    by_cases h1 : m = a + 1
    · have := symUp_call L enc cf sc hcf g cb blk off cap a m b d0 d w0 w eg hcmp R hs.symm S ham hmb (by omega) (by omega) hT h1
      rwa [hs] at this
    · by_cases h2 : b = m + 1
      · have := symDn_call L enc cf sc hcf g cb blk off cap a m b d0 d w0 w eg hcmp R hs.symm S ham hmb (by omega) (by omega) hT h2 (by omega)
        rwa [hs] at this
      · have ih' : ∀ (a' m' b' : Nat) (d' : Array Nat) (W : World), b' - a' < b - a → d'.size = d.size → SWK enc k w0 blk off d' W → a' < m' → m' < b' → b' ≤ d.size → Two sc d' a' m' b' →
            Calls P 43 #[.slice (some ⟨blk, off, none⟩) d.size cap, .int .i64 a', .int .i64 m', .int .i64 b', .func (.func g) #[] cb] W fun e w' => e = .returned (.tuple #[]) ∧ ∃ dF : Array Nat, Mv a' b' d' dF ∧ Srt sc dF a' b' ∧ SWK enc k w0 blk off dF w' := fun a' m' b' d' W i1 i2 i3 i4 i5 i6 i7 => by
          rw [hs]
          exact ih a' m' b' d' W (by omega) (by omega) i3 i4 i5 (by omega) i7
        by_cases h3 : (a + b) / 2 < m
        · have := symHi_call L enc cf sc hcf g cb blk off cap a m b d0 d w0 w eg hcmp R hs.symm S ham hmb (by omega) (by omega) hT (by omega) (by omega) ih' h3
          rwa [hs] at this
        · have := symLo_call L enc cf sc hcf g cb blk off cap a m b d0 d w0 w eg hcmp R hs.symm S ham hmb (by omega) (by omega) hT (by omega) (by omega) ih' (by omega)
          rwa [hs] at this

set_option maxHeartbeats 4000000 in
set_option maxRecDepth 1000000 in
theorem stable_call (L : SrtP P k) (enc : Nat → List Value) (cf : Nat → Nat → Int) (sc : Nat → Int) (hcf : ∀ x y, cf x y < 0 ↔ sc y < sc x) (g : Nat) (cb : Array Value) (blk off cap n : Nat) (d : Array Nat) (w0 : World)
    (eg : ∀ args w, (callFunc g args).run P w = .ok (.enter g args) w) (hcmp : CmpLays P g cb enc k cf blk off d.size w0) (R : RowK enc k w0 blk off d) (hn : d.size = n) (hsz : n < 1099511627776) (hO : EqO sc d 0 n) :
    Calls P 35 #[.slice (some ⟨blk, off, none⟩) n cap, .int .i64 n, .func (.func g) #[] cb] w0 fun e w' => e = .returned (.tuple #[]) ∧ ∃ dF : Array Nat, Mv 0 n d dF ∧ Srt sc dF 0 n ∧ SWK enc k w0 blk off dF w' := by
  have mixed := L.mixed; have t0 := L.t0; have a0 := L.a0; have z0 := L.z0; have v0 := L.v0; have t3 := L.t3; have a3 := L.a3; have z3 := L.z3; have v3 := L.v3; have t4 := L.t4; have a4 := L.a4; have z4 := L.z4; have v4 := L.v4; have t51 := L.t51; have a51 := L.a51; have z51 := L.z51; have v51 := L.v51; have t57 := L.t57; have a57 := L.a57; have z57 := L.z57; have v57 := L.v57
  have FG := L.f35
  have e42 : ∀ args w, (callFunc 42 args).run P w = .ok (.enter 42 args) w := enters_of L.f42 (by decide) rfl
  have e43 : ∀ args w, (callFunc 43 args).run P w = .ok (.enter 43 args) w := enters_of L.f43 (by decide) rfl
  have ins : Aside (∀ (W : World) (dk : Array Nat) (a b : Nat), Held sc n d dk → SWK enc k w0 blk off dk W → a ≤ b → b ≤ n →
      Calls P 42 #[.slice (some ⟨blk, off, none⟩) n cap, .int .i64 a, .int .i64 b, .func (.func g) #[] cb] W fun e w' => e = .returned (.tuple #[]) ∧ ∃ dF : Array Nat, Hid (Mv a b dk dF ∧ Srt sc dF a b ∧ Held sc n d dF) ∧ Aside (SWK enc k w0 blk off dF w')) := fun W dk a b h1 h2 h3 h4 => by
    have c := insertion_call L enc cf sc hcf g cb blk off cap a b d dk w0 W eg hcmp R h1.mv.size.symm h2 h3 (by rw [h1.mv.size]; omega) (by rw [h1.mv.size]; omega) (h1.eqo.cut (Nat.zero_le _) h4)
    rw [h1.mv.size, hn] at c
    exact c.mono fun e w' ⟨i1, dF, i2, i3, i4⟩ => ⟨i1, dF, ⟨i2, i3, h1.step i2 i3 h4⟩, i4⟩
  have mrg : Aside (∀ (W : World) (dk : Array Nat) (a m b : Nat), Held sc n d dk → SWK enc k w0 blk off dk W → a < m → m < b → b ≤ n → Srt sc dk a m → Srt sc dk m b →
      Calls P 43 #[.slice (some ⟨blk, off, none⟩) n cap, .int .i64 a, .int .i64 m, .int .i64 b, .func (.func g) #[] cb] W fun e w' => e = .returned (.tuple #[]) ∧ ∃ dF : Array Nat, Hid (Mv a b dk dF ∧ Srt sc dF a b ∧ Held sc n d dF) ∧ Aside (SWK enc k w0 blk off dF w')) := fun W dk a m b h1 h2 h3 h4 h5 h6 h7 => by
    have c := symMerge_call L enc cf sc hcf g cb blk off cap d w0 eg hcmp R (by omega) (b - a) a m b dk W (Nat.le_refl _) h1.mv.size h2 h3 h4 (by omega) (Two.of h1.eqo h6 h7 h5)
    rw [hn] at c
    exact c.mono fun e w' ⟨i1, dF, i2, i3, i4⟩ => ⟨i1, dF, ⟨i2, i3, h1.step i2 i3 h5⟩, i4⟩
  have S0 : Aside (SWK enc k w0 blk off d w0) := SWK.start R.hH
  have H0 : Hid (Held sc n d d) := ⟨Mv.refl _ _ _, hO⟩
  clear hcmp hcf hO L hn R
  go_enter FG, Try.ntmps35
  go_wp2
  go_loopg [7, 8] n (fun kx s7 s8 wr => ∃ (p q : Nat) (dk : Array Nat), s7 = .int .i64 p ∧ s8 = .int .i64 q ∧ p ≤ n ∧ q ≤ n + 20 ∧ n - p ≤ kx ∧ Hid (q = p + 20 ∧ 20 ∣ p) ∧ Hid (Held sc n d dk ∧ BlkTo sc 20 dk p) ∧ Aside (SWK enc k w0 blk off dk wr))
  case atStart => exact ⟨0, 20, d, rfl, rfl, Nat.zero_le _, by omega, by omega, ⟨rfl, Nat.dvd_zero _⟩, ⟨H0.out, fun i j h1 h2 => by omega⟩, S0⟩
  case round =>
    clear S0 H0
    obtain ⟨p, q, dk, rfl, rfl, hpn, hqn, hkx, HQ, HB, S1⟩ := hrel
    by_cases hlt : q ≤ n
    · have hltz : (q : Int) ≤ (n : Int) := by omega
      have hpq : p < q := by have := HQ.out; omega
      have c := ins.out wr dk p q HB.out.1 S1.out (by omega) hlt
      obtain ⟨q2, eq2⟩ : ∃ q2, q + 20 = q2 := ⟨_, rfl⟩
      have zq2 : (q : Int) + 20 = (q2 : Int) := by omega
      have HQ2 : Hid (q2 = q + 20 ∧ 20 ∣ q) := ⟨eq2.symm, by have h := HQ.out; rw [h.1]; exact Nat.dvd_add h.2 (Nat.dvd_refl _)⟩
      have HP : Hid (20 ∣ p) := HQ.out.2
      have hq2 : q2 ≤ n + 20 := by omega
      clear S1 eq2 HQ
      go_wp2_with (go_at_fn 42; refine c.mono ?_; rintro e w2 ⟨rfl, dF, HF, S2⟩)
      go_roundg (n - q)
      case measure => omega
      case rel => exact ⟨q, q2, dF, rfl, rfl, hlt, hq2, Nat.le_refl _, HQ2, ⟨HF.out.2.2, HB.out.2.step HP.out HF.out.1 HF.out.2.1⟩, S2⟩
    · have hltz : ¬ (q : Int) ≤ (n : Int) := by omega
      have c := ins.out wr dk p n HB.out.1 S1.out hpn (Nat.le_refl _)
      have HP : Hid (20 ∣ p) := HQ.out.2
      clear S1 HQ
      go_wp2_with (go_at_fn 42; refine c.mono ?_; rintro e w2 ⟨rfl, dF, HF, S2⟩)
      have HB2 : Hid (Held sc n d dF ∧ BlkTo sc 20 dF n) := ⟨HF.out.2.2, HB.out.2.step HP.out HF.out.1 HF.out.2.1⟩
      clear HB HF HP c hltz hlt
      go_loopg [6, 7, 8] (n - 20) (fun kx s6 s7 s8 wr => ∃ (s : Nat) (dk : Array Nat), s6 = .int .i64 s ∧ 0 < s ∧ s ≤ n + n + 20 ∧ n - s ≤ kx ∧ Hid (Held sc n d dk ∧ BlkTo sc s dk n) ∧ Aside (SWK enc k w0 blk off dk wr))
      case atStart => exact ⟨20, dF, rfl, by omega, by omega, Nat.le_refl _, HB2, S2⟩
      case round =>
        clear S2 HB2
        obtain ⟨s, dk, rfl, hs, hsn, hkx, HB, S1⟩ := hrel
        by_cases hlt : s < n
        · have hltz : (s : Int) < (n : Int) := by omega
          obtain ⟨s2, es2⟩ : ∃ s2, 2 * s = s2 := ⟨_, rfl⟩
          have zs2 : 2 * (s : Int) = (s2 : Int) := by omega
          have zs2' : (s : Int) * 2 = (s2 : Int) := by omega
          have hs2 : s < s2 ∧ s2 ≤ n + n := by omega
          have HS : Hid (2 * s = s2) := es2
          clear es2
          go_wp2
          go_loopg [7, 8] n (fun kx s7 s8 wr => ∃ (p q : Nat) (dk : Array Nat), s7 = .int .i64 p ∧ s8 = .int .i64 q ∧ p ≤ n ∧ q ≤ n + s2 ∧ n - p ≤ kx ∧ Hid (q = p + s2 ∧ s2 ∣ p) ∧ Hid (Held sc n d dk ∧ BlkTo sc s2 dk p ∧ BlkFrom sc s dk p n) ∧ Aside (SWK enc k w0 blk off dk wr))
          case atStart => exact ⟨0, s2, dk, rfl, rfl, Nat.zero_le _, by omega, by omega, ⟨by omega, Nat.dvd_zero _⟩, ⟨HB.out.1, fun i j h1 h2 => by omega, HB.out.2.from_⟩, S1⟩
          case round =>
            clear S1 HB
            obtain ⟨p, q, dk, rfl, rfl, hpn, hqn, hkx, HQ, HB, S1⟩ := hrel
            obtain ⟨m, em⟩ : ∃ m, p + s = m := ⟨_, rfl⟩
            have zm : (p : Int) + (s : Int) = (m : Int) := by omega
            have hpq : p < m ∧ m < q := by have := HQ.out; have := HS.out; omega
            have DV : Hid (s ∣ p ∧ s ∣ m) := by
              have h1 : s ∣ p := Nat.dvd_trans ⟨2, by have := HS.out; omega⟩ HQ.out.2
              exact ⟨h1, by rw [← em]; exact Nat.dvd_add h1 (Nat.dvd_refl _)⟩
            by_cases hlt2 : q ≤ n
            · have hltz2 : (q : Int) ≤ (n : Int) := by omega
              have c := mrg.out wr dk p m q HB.out.1 S1.out hpq.1 hpq.2 hlt2 (HB.out.2.2.srt hs DV.out.1 (Nat.le_refl _) (by omega) (by omega)) (HB.out.2.2.srt hs DV.out.2 (by omega) (by have := HQ.out; have := HS.out; omega) hlt2)
              obtain ⟨q2, eq2⟩ : ∃ q2, q + s2 = q2 := ⟨_, rfl⟩
              have zq2 : (q : Int) + (s2 : Int) = (q2 : Int) := by omega
              have HQ2 : Hid (q2 = q + s2 ∧ s2 ∣ q) := ⟨eq2.symm, by have h := HQ.out; rw [h.1]; exact Nat.dvd_add h.2 (Nat.dvd_refl _)⟩
              have HP : Hid (s2 ∣ p) := HQ.out.2
              have hq2 : q2 ≤ n + s2 := by omega
              clear S1 eq2 HQ em DV
              go_wp2_with (go_at_fn 43; refine c.mono ?_; rintro e w2 ⟨rfl, dF, HF, S2⟩)
              go_roundg (n - q)
              case measure => omega
              case rel => exact ⟨q, q2, dF, rfl, rfl, hlt2, hq2, Nat.le_refl _, HQ2, ⟨HF.out.2.2, HB.out.2.1.step HP.out HF.out.1 HF.out.2.1, HB.out.2.2.moved HF.out.1 (by omega)⟩, S2⟩
            · have hltz2 : ¬ (q : Int) ≤ (n : Int) := by omega
              have hqs : q ≤ m + s := by have := HQ.out; have := HS.out; omega
              have HP : Hid (s2 ∣ p) := HQ.out.2
              by_cases hmn : m < n
              · have hmnz : (m : Int) < (n : Int) := by omega
                have c := mrg.out wr dk p m n HB.out.1 S1.out hpq.1 hmn (Nat.le_refl _) (HB.out.2.2.srt hs DV.out.1 (Nat.le_refl _) (by omega) (by omega)) (HB.out.2.2.srt hs DV.out.2 (by omega) (by omega) (Nat.le_refl _))
                clear S1 HQ em DV
                go_wp2_with (go_at_fn 43; refine c.mono ?_; rintro e w2 ⟨rfl, dF, HF, S2⟩)
                go_roundg (n - s2)
                case measure => omega
                case rel => exact ⟨s2, dF, rfl, by omega, by omega, Nat.le_refl _, ⟨HF.out.2.2, HB.out.2.1.step HP.out HF.out.1 HF.out.2.1⟩, S2⟩
              · have hmnz : ¬ (m : Int) < (n : Int) := by omega
                have HB2 : Hid (Held sc n d dk ∧ BlkTo sc s2 dk n) := ⟨HB.out.1, HB.out.2.1.step HP.out (Mv.refl _ _ _) (HB.out.2.2.srt hs DV.out.1 (Nat.le_refl _) (by omega) (Nat.le_refl _))⟩
                clear HQ em DV HB
                go_wp2
                go_roundg (n - s2)
                case measure => omega
                case rel => exact ⟨s2, dk, rfl, by omega, by omega, Nat.le_refl _, HB2, S1⟩
        · have hltz : ¬ (s : Int) < (n : Int) := by omega
          go_wp2
          go_end0
          exact ⟨rfl, dk, HB.out.1.mv, HB.out.2.all (by omega), S1.out⟩

end Go.Proofs.Yteeljnibglnflaa

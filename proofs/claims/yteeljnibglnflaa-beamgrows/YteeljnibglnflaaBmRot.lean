/- The library's rotation of a row of structs: a contract of the call, over whatever program bears it. -/
import Derived.Test.YteeljnibglnflaaRows
import Derived.Test.YteeljnibglnflaaBmSwap
namespace Go.Proofs.Yteeljnibglnflaa
set_option maxRecDepth 20000
open Go.Shelf Go.RowKit Go.Lib Go.Sort
set_option linter.unusedVariables false
variable {P : Program} {k : Nat}

/-- the sort's call in a walk: what was said of the row is said of it behind the call -/
theorem rot_go {a b n : Nat} {dk dk' : Array Nat} (hab : a + n ≤ b) (hb : b + n ≤ dk.size) {I J : Nat → Nat} (h : ∀ x, dk[I x]! = dk'[J x]!) {I' : Nat → Nat} (hI : ∀ x, swI a b n (I' x) = I x) : ∀ x, (swR dk a b n)[I' x]! = dk'[J x]! := fun x => by
  rw [swR_at dk a b n hab hb, hI, h]

set_option maxHeartbeats 4000000 in
set_option maxRecDepth 1000000 in
theorem rotate_call (L : SrtP P k) (enc : Nat → List Value) (g : Nat) (cb : Array Value) (blk off cap a m b : Nat) (d0 d : Array Nat) (w0 w : World)
    (R : RowK enc k w0 blk off d0) (hs : d0.size = d.size) (S : SWK enc k w0 blk off d w) (ham : a < m) (hmb : m < b) (hb : b ≤ d.size) (hsz : d.size < 1099511627776) :
    Calls P 44 #[.slice (some ⟨blk, off, none⟩) d.size cap, .int .i64 a, .int .i64 m, .int .i64 b, .func (.func g) #[] cb] w fun e w' => e = .returned (.tuple #[]) ∧ ∃ dF : Array Nat, dF.size = d.size ∧ Rot a m b d dF ∧ SWK enc k w0 blk off dF w' := by
  have mixed := L.mixed; have t0 := L.t0; have a0 := L.a0; have z0 := L.z0; have v0 := L.v0; have t3 := L.t3; have a3 := L.a3; have z3 := L.z3; have v3 := L.v3; have t4 := L.t4; have a4 := L.a4; have z4 := L.z4; have v4 := L.v4; have t51 := L.t51; have a51 := L.a51; have z51 := L.z51; have v51 := L.v51; have t57 := L.t57; have a57 := L.a57; have z57 := L.z57; have v57 := L.v57
  have FG := L.f44
  have e45 : ∀ args w, (callFunc 45 args).run P w = .ok (.enter 45 args) w := enters_of L.f45 (by decide) rfl
  have S0 : Aside (SWK enc k w0 blk off d w) := S
  have step : Aside (∀ (W : World) (dk : Array Nat) (x y n : Nat), dk.size = d.size → SWK enc k w0 blk off dk W → x + n ≤ y → y + n ≤ dk.size →
      Calls P 45 #[.slice (some ⟨blk, off, none⟩) d.size cap, .int .i64 x, .int .i64 y, .int .i64 n, .func (.func g) #[] cb] W fun e w' => e = .returned (.tuple #[]) ∧ SWK enc k w0 blk off (swR dk x y n) w') := fun W dk x y n h1 h2 h3 h4 => by
    have := swapRange_call L enc g cb blk off cap x y n d0 dk w0 W R (by omega) h2 h3 h4 (by omega)
    rw [h1] at this
    exact this
  clear S L
  obtain ⟨i0, ei0⟩ : ∃ i0, m - a = i0 := ⟨_, rfl⟩
  obtain ⟨j0, ej0⟩ : ∃ j0, b - m = j0 := ⟨_, rfl⟩
  have z1 : (m : Int) - (a : Int) = (i0 : Int) := by omega
  have z2 : (b : Int) - (m : Int) = (j0 : Int) := by omega
  go_enter FG, Try.ntmps44
  go_wp2
  go_loopg [10, 11] (i0 + j0) (fun kx s10 s11 wr => ∃ (i j : Nat) (dk : Array Nat), s10 = .int .i64 i ∧ s11 = .int .i64 j ∧ 0 < i ∧ 0 < j ∧ i ≤ i0 ∧ j ≤ j0 ∧ i + j ≤ kx ∧ dk.size = d.size ∧ Aside (SWK enc k w0 blk off dk wr) ∧ Hid (∀ x, dk[rotI (m - i) m (m + j) x]! = d[rotI a m b x]!))
  case atStart => exact ⟨i0, j0, d, rfl, rfl, by omega, by omega, Nat.le_refl _, Nat.le_refl _, by omega, rfl, S0, by show ∀ x, _; intro x; rw [show m - i0 = a by omega, show m + j0 = b by omega]⟩
  case round =>
    clear S0
    obtain ⟨i, j, dk, rfl, rfl, hi, hj, hi0, hj0, hkx, hds, S1, HR⟩ := hrel
    obtain ⟨x0, ex0⟩ : ∃ x0, m - i = x0 := ⟨_, rfl⟩
    have zx : (m : Int) - (i : Int) = (x0 : Int) := by omega
    by_cases hlt : j < i
    · have t1 : ¬ (i : Int) = (j : Int) := by omega
      have t2 : (j : Int) < (i : Int) := by omega
      have c := step.out wr dk x0 m j hds S1.out (by omega) (by omega)
      have HR' : Hid (∀ x, (swR dk x0 m j)[rotI (m - (i - j)) m (m + j) x]! = d[rotI a m b x]!) := rot_go (by omega) (by omega) HR.out (fun x => by rw [← ex0]; exact rot_left hj hlt (by omega) x)
      have hds' : (swR dk x0 m j).size = d.size := by rw [swR_size]; exact hds
      obtain ⟨y, ey⟩ : ∃ y, i - j = y := ⟨_, rfl⟩
      have zy : (i : Int) - (j : Int) = (y : Int) := by omega
      rw [ey] at HR'
      clear S1 HR ex0
      go_wp2_with (go_at_fn 45; refine c.mono ?_; rintro e w2 ⟨rfl, S2⟩)
      go_roundg (y + j)
      case measure => omega
      case rel => exact ⟨y, j, _, rfl, rfl, by omega, hj, by omega, hj0, Nat.le_refl _, hds', S2, HR'⟩
    · by_cases hlt' : i < j
      · have t1 : ¬ (i : Int) = (j : Int) := by omega
        have t2 : ¬ (j : Int) < (i : Int) := by omega
        obtain ⟨s, es⟩ : ∃ s, m + j = s := ⟨_, rfl⟩
        obtain ⟨y0, ey0⟩ : ∃ y0, m + j - i = y0 := ⟨_, rfl⟩
        have zs : (m : Int) + (j : Int) = (s : Int) := by omega
        have zy0 : (s : Int) - (i : Int) = (y0 : Int) := by omega
        have c := step.out wr dk x0 y0 i hds S1.out (by omega) (by omega)
        have HR' : Hid (∀ x, (swR dk x0 y0 i)[rotI (m - i) m (m + (j - i)) x]! = d[rotI a m b x]!) := rot_go (by omega) (by omega) HR.out (fun x => by rw [← ex0, ← ey0]; exact rot_right hi hlt' (by omega) x)
        have hds' : (swR dk x0 y0 i).size = d.size := by rw [swR_size]; exact hds
        obtain ⟨y, ey⟩ : ∃ y, j - i = y := ⟨_, rfl⟩
        have zy : (j : Int) - (i : Int) = (y : Int) := by omega
        rw [ey] at HR'
        have hbs : (s : Int) ≤ (b : Int) := by omega
        clear S1 HR ex0 es ey0
        go_wp2_with (go_at_fn 45; refine c.mono ?_; rintro e w2 ⟨rfl, S2⟩)
        go_roundg (i + y)
        case measure => omega
        case rel => exact ⟨i, y, _, rfl, rfl, hi, by omega, hi0, by omega, Nat.le_refl _, hds', S2, HR'⟩
      · obtain rfl : j = i := by omega
        have c := step.out wr dk x0 m j hds S1.out (by omega) (by omega)
        have fin : Hid (Rot a m b d (swR dk x0 m j)) := by
          show Rot a m b d _
          intro x
          rw [swR_at _ _ _ _ (by omega) (by omega), ← ex0, rot_last (by omega), HR.out]
        have hds' : (swR dk x0 m j).size = d.size := by rw [swR_size]; exact hds
        clear S1 HR ex0
        go_wp2_with (go_at_fn 45; refine c.mono ?_; rintro e w2 ⟨rfl, S2⟩)
        go_end0
        exact ⟨rfl, _, hds', fin.out, S2⟩

end Go.Proofs.Yteeljnibglnflaa

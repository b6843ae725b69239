/- The library's exchange of two ranges and its rotation, of a row of structs: contracts of the calls, over whatever program bears these functions. -/
import Derived.Test.YteeljnibglnflaaRows
import Derived.Test.YteeljnibglnflaaBmSrtZ
import Derived.Shelf.SlSortCmp.KitK
import Derived.Sort.WalkB2
import Derived.Sort.WalkB12
import Derived.Deep.LoopGhost
namespace Go.Proofs.Yteeljnibglnflaa
set_option maxRecDepth 20000
open Go.Shelf Go.RowKit Go.Lib Go.Sort
set_option linter.unusedVariables false

/-- what is asked of a program: that it bears the sort's functions, and what its types are -/
structure SrtP (P : Program) (k : Nat) : Prop where
  mixed : P.follows .mixedOrders = true
  f35 : P.funcs[35]? = some Try.f35
  f42 : P.funcs[42]? = some Try.f42
  f43 : P.funcs[43]? = some Try.f43
  f44 : P.funcs[44]? = some Try.f44
  f45 : P.funcs[45]? = some Try.f45
  t0 : P.underlying 0 = some (TypeDesc.tuple #[])
  a0 : ∀ w, (isAgg 0).run P w = .ok false w
  z0 : ∀ w, (Go.sizeOf 0).run P w = .ok 1 w
  v0 : ∀ w, (zeroValue 0).run P w = .ok (Value.tuple #[]) w
  t3 : P.underlying 3 = some (TypeDesc.int IntKind.i64)
  a3 : ∀ w, (isAgg 3).run P w = .ok false w
  z3 : ∀ w, (Go.sizeOf 3).run P w = .ok 1 w
  v3 : ∀ w, (zeroValue 3).run P w = .ok (Value.int IntKind.i64 0) w
  t4 : P.underlying 4 = some (TypeDesc.bool)
  a4 : ∀ w, (isAgg 4).run P w = .ok false w
  z4 : ∀ w, (Go.sizeOf 4).run P w = .ok 1 w
  v4 : ∀ w, (zeroValue 4).run P w = .ok (Value.bool false) w
  t51 : P.underlying 51 = some (TypeDesc.slice 55)
  a51 : ∀ w, (isAgg 51).run P w = .ok false w
  z51 : ∀ w, (Go.sizeOf 51).run P w = .ok 1 w
  v51 : ∀ w, (zeroValue 51).run P w = .ok (Value.slice none 0 0) w
  t57 : P.underlying 57 = some (TypeDesc.func #[55, 55] #[3] false)
  a57 : ∀ w, (isAgg 57).run P w = .ok false w
  z57 : ∀ w, (Go.sizeOf 57).run P w = .ok 1 w
  v57 : ∀ w, (zeroValue 57).run P w = .ok (Value.nilFunc) w
  t74 : P.underlying 74 = some (TypeDesc.int IntKind.u64)
  a74 : ∀ w, (isAgg 74).run P w = .ok false w
  z74 : ∀ w, (Go.sizeOf 74).run P w = .ok 1 w
  v74 : ∀ w, (zeroValue 74).run P w = .ok (Value.int IntKind.u64 0) w
  aE : ∀ w, (isAgg 55).run P w = .ok true w
  zE : ∀ w, (Go.sizeOf 55).run P w = .ok k w

theorem srtTry : SrtP Try.prog 5 where
  mixed := by kernel_rfl
  f35 := Try.func35
  f42 := Try.func42
  f43 := Try.func43
  f44 := Try.func44
  f45 := Try.func45
  t0 := Try.underlying0
  a0 := Try.isAgg0
  z0 := Try.sizeOf0
  v0 := Try.zeroValue0
  t3 := Try.underlying3
  a3 := Try.isAgg3
  z3 := Try.sizeOf3
  v3 := Try.zeroValue3
  t4 := Try.underlying4
  a4 := Try.isAgg4
  z4 := Try.sizeOf4
  v4 := Try.zeroValue4
  t51 := Try.underlying51
  a51 := Try.isAgg51
  z51 := Try.sizeOf51
  v51 := Try.zeroValue51
  t57 := Try.underlying57
  a57 := Try.isAgg57
  z57 := Try.sizeOf57
  v57 := Try.zeroValue57
  t74 := Try.underlying74
  a74 := Try.isAgg74
  z74 := Try.sizeOf74
  v74 := Try.zeroValue74
  aE := Try.isAgg55
  zE := Try.sizeOf55

variable {P : Program} {k : Nat}

set_option maxHeartbeats 4000000 in
set_option maxRecDepth 1000000 in
theorem swapRange_call (L : SrtP P k) (enc : Nat → List Value) (g : Nat) (cb : Array Value) (blk off cap a b n : Nat) (d0 d : Array Nat) (w0 w : World)
    (R : RowK enc k w0 blk off d0) (hs : d0.size = d.size) (S : SWK enc k w0 blk off d w) (hab : a + n ≤ b) (hb : b + n ≤ d.size) (hsz : d.size < 1099511627776) :
    Calls P 45 #[.slice (some ⟨blk, off, none⟩) d.size cap, .int .i64 a, .int .i64 b, .int .i64 n, .func (.func g) #[] cb] w fun e w' => e = .returned (.tuple #[]) ∧ SWK enc k w0 blk off (swR d a b n) w' := by
  have mixed := L.mixed; have t0 := L.t0; have a0 := L.a0; have z0 := L.z0; have v0 := L.v0; have t3 := L.t3; have a3 := L.a3; have z3 := L.z3; have v3 := L.v3; have t4 := L.t4; have a4 := L.a4; have z4 := L.z4; have v4 := L.v4; have t51 := L.t51; have a51 := L.a51; have z51 := L.z51; have v51 := L.v51; have t57 := L.t57; have a57 := L.a57; have z57 := L.z57; have v57 := L.v57; have aE := L.aE; have zE := L.zE
  have FG := L.f45
  have S0 : Aside (SWK enc k w0 blk off d w) := S
  clear S L
  go_enter FG, Try.ntmps45
  go_wp2
  go_loopg [10] n (fun kx s10 wr => ∃ (i : Nat), s10 = .int .i64 i ∧ i ≤ n ∧ n - i ≤ kx ∧ Aside (SWK enc k w0 blk off (swR d a b i) wr))
  case atStart => exact ⟨0, rfl, Nat.zero_le _, by omega, S0⟩
  case round =>
    clear S0
    obtain ⟨i, rfl, hi, hkx, S1⟩ := hrel
    by_cases hlt : i < n
    · have hltz : (i : Int) < (n : Int) := by omega
      have hsk := swR_size d a b i
      obtain ⟨dk, edk⟩ : ∃ dk, swR d a b i = dk := ⟨_, rfl⟩
      have enx : swR d a b (i + 1) = swp dk (a + i) (b + i) := by rw [← edk]; rfl
      rw [edk] at S1 hsk
      obtain ⟨p, ep⟩ : ∃ p, a + i = p := ⟨_, rfl⟩
      obtain ⟨q, eq⟩ : ∃ q, b + i = q := ⟨_, rfl⟩
      rw [ep, eq] at enx
      have EN : Hid (swR d a b (i + 1) = swp dk p q) := enx
      have epz : (a : Int) + (i : Int) = (p : Int) := by omega
      have eqz : (b : Int) + (i : Int) = (q : Int) := by omega
      clear edk enx
      have ea : ((p : Int)).toNat = p := by omega
      have pa : (0 : Int) ≤ (p : Int) := by omega
      have ba : (p : Int) < (d.size : Int) := by omega
      have ra : IntKind.i64.wrap ((p : Int)) = (p : Int) := by rw [IntKind.wrap_i64]; omega
      have ec : ((q : Int)).toNat = q := by omega
      have pc : (0 : Int) ≤ (q : Int) := by omega
      have bc : (q : Int) < (d.size : Int) := by omega
      have rc : IntKind.i64.wrap ((q : Int)) = (q : Int) := by rw [IntKind.wrap_i64]; omega
      have S2 : Aside (SWK enc k w0 blk off (swp dk p q) ((wr.drew.setCells blk (off + p * k) (enc dk[q]!)).setCells blk (off + q * k) (enc dk[p]!))) := S1.out.swapped R p q (by omega) (by omega)
      have la := S1.out.ld1 R (by omega) P p (by omega)
      have lb := S1.out.ld1 R (by omega) P q (by omega)
      have sa := S1.out.st1 R (by omega) P p (by omega) dk[q]!
      have sb := S1.out.st2 R (by omega) P p q (by omega) (by omega) dk[q]! dk[p]!
      have na : (enc dk[p]!).length = k := R.hk _
      have nb : (enc dk[q]!).length = k := R.hk _
      generalize enc dk[p]! = cI at S2 la sb na
      generalize enc dk[q]! = cJ at S2 lb sa sb nb
      clear S1 ep eq
      go_wp2_with fail
      go_big_region_o
      clear la lb sa sb
      generalize (wr.drew.setCells blk (off + p * k) cJ).setCells blk (off + q * k) cI = w2 at S2 ⊢
      go_wp2
      go_roundg (n - (i + 1))
      case measure => omega
      case rel => exact ⟨i + 1, by go_num, by omega, Nat.le_refl _, by rw [EN.out]; exact S2⟩
    · obtain rfl : i = n := by omega
      have hltz : ¬ (i : Int) < (i : Int) := by omega
      go_wp2
      go_end0
      exact ⟨rfl, S1.out⟩

end Go.Proofs.Yteeljnibglnflaa

/- What the program seals it opens again, any text (longer ones than 5000 bytes are passed over); with one byte changed to another one, but for 0 and 255 within the text, it answers ErrSum; no condition. -/
import Derived.Test.YtipjjciafcpgfaaRows
import Derived.Test.YtipjjciafcpgfaaView
import Derived.Test.YtipjjciafcpgfaaOwn
import Derived.Test.YtipjjciafcpgfaaWorks
import Derived.Test.YtipjjciafcpgfaaTexts
import Derived.Test.YtipjjciafcpgfaaSums
import Derived.Test.YtipjjciafcpgfaaSeals
import Derived.Test.YtipjjciafcpgfaaOpens
import Derived.Test.YtipjjciafcpgfaaReader
import Derived.Test.YtipjjciafcpgfaaTwos
import Derived.Test.YtipjjciafcpgfaaRdWts
import Derived.Test.YtipjjciafcpgfaaRefWts
import Derived.Test.YtipjjciafcpgfaaLooks
import Derived.Test.YtipjjciafcpgfaaChange
import Derived.Test.YtipjjciafcpgfaaBytes
import Derived.WalkKit
import Derived.ProofKit
import Derived.OpenShut
import Derived.ChangeOld
import Derived.Below
import Derived.WalkLawsBesides
import Derived.ChangeMaps5
namespace Go.Proofs.Ytipjjciafcpgfaa.bytesSealed
open Go.ChangeShapes Go.WideShapes Go.ChangeAt Go.RowKit
set_option linter.unusedVariables false
set_option linter.unusedSimpArgs false

theorem own : ownKnob Try.prog.godebug = none := by kernel_rfl
theorem laidOut : laidOutB Try.prog = true := by kernel_rfl

/-- the text with the byte at p set to v -/
def setT (s : ByteArray) (p : Nat) (v : Int) : ByteArray := bytesOf ((bytesL s).set p v)

theorem setT_size (s : ByteArray) (p : Nat) (v : Int) : (setT s p v).size = s.size := by
  unfold setT
  rw [bytesOf_size, List.length_set, bytesL_length]
theorem setT_other (s : ByteArray) (p : Nat) (v : Int) (i : Nat) (hi : i ≠ p) : byteZ s i = byteZ (setT s p v) i := by
  by_cases h : i < s.size
  · have e : ((bytesL s).set p v).getD i 0 = byteZ s i := by
      rw [← bytesL_at s i h]
      simp [List.getD, List.getElem?_set_ne (Ne.symm hi)]
    have lt := byteZ_lt s i
    have := byteZ_of ((bytesL s).set p v) i (by rw [List.length_set, bytesL_length]; exact h) (by rw [e]; omega) (by rw [e]; omega)
    rw [e] at this
    unfold setT
    omega
  · have hz : ∀ (v : ByteArray) i, v.size ≤ i → byteZ v i = 0 := fun v i hi => by unfold byteZ; rw [dif_neg (by omega)]
    rw [hz _ _ (by omega), hz _ _ (by rw [setT_size]; omega)]
theorem setT_same (s : ByteArray) (p : Nat) (v : Int) (hp : p < s.size) (h0 : 0 ≤ v) (h1 : v ≤ 255) : (byteZ (setT s p v) p : Int) = v := by
  have e : ((bytesL s).set p v).getD p 0 = v := by simp [List.getD, bytesL_length, hp]
  have := byteZ_of ((bytesL s).set p v) p (by rw [List.length_set, bytesL_length]; exact hp) (by rw [e]; exact h0) (by rw [e]; omega)
  rw [e] at this
  exact this

theorem bytes_key (T : ByteArray) (n p : Nat) (hT : T.size = n) (hn : n ≤ 9223372036854775807) (hp : p < n) (v : Int) (hv : (Lit.int .u8 v).wf = true) (W : World) : ∃ c W', (convert 9 44 (.string T)).run Try.prog W = .ok (.slice (some ⟨W.heap.size, 0, none⟩) n c) W' ∧
    W'.cell? ⟨W.heap.size, p, none⟩ = some (.int .u8 (byteZ T p : Int)) ∧ W'.frozen? ⟨W.heap.size, p, none⟩ = false ∧ Below W.heap.size W (W'.setCell ⟨W.heap.size, p, none⟩ (.int .u8 v)) ∧
    (convert 44 9 (.slice (some ⟨W.heap.size, 0, none⟩) n c)).run Try.prog (W'.setCell ⟨W.heap.size, p, none⟩ (.int .u8 v)) = .ok (.string (setT T p v)) (W'.setCell ⟨W.heap.size, p, none⟩ (.int .u8 v)) := by
  subst hT
  obtain ⟨c, W', ec, hc, hb, rd, fz⟩ := bytes_of T hn W
  refine ⟨c, W', ec, ?_, fz p hp, hb.setCell (Nat.le_refl _) _, conv_row c (reads_set rd hp hv)⟩
  have := rd.cell _ rfl p hp
  rw [bytesL_at T p hp] at this
  have e : (⟨W.heap.size, 0, none⟩ : Addr).add p = ⟨W.heap.size, p, none⟩ := by by_cases h : p = 0 <;> simp [Addr.add, h]
  rwa [e] at this


set_option maxHeartbeats 4000000 in
theorem walk (a0 : ByteArray) (a1 : Int) (a2 : Int) (w : World) (w0 : a0.size ≤ maxLen) (w1 : (Lit.int .i64 a1).wf = true) (w2 : (Lit.int .u8 a2).wf = true) :
    Calls Try.prog 6 #[.string a0, .int .i64 a1, .int .u8 a2] w fun e w' => e = .returned (.bool true) ∧ Below w.heap.size w w' := by
  unfold maxLen at w0
  have w0' : a0.size ≤ 9223372036854775807 := w0
  clear w0
  have k26 := works_call
  by_cases h : 5000 < a0.size
  · have h' : (5000 : Int) < (a0.size : Int) := by omega
    go_enter Try.func6, Try.ntmps6
    go_wp2_with (go_at_call 26; refine (k26 _).mono ?_; rintro e W1 ⟨rfl, hb1⟩)
    go_ret
    exact ⟨rfl, hb1⟩
  have hn : (a0.size : Int) ≤ 5000 := by omega
  have k16 := fun W => seal_call a0 W (by omega)
  have hT := seal_size a0
  have k8 := fun W => open_call (sealS a0) W (by rw [hT]; omega)
  rw [openE_seal, openT_seal] at k8
  have u8 : 0 ≤ a2 ∧ a2 ≤ 255 := by simpa [Lit.wf, IntKind.min, IntKind.max, IntKind.signed, IntKind.bits] using w2
  obtain ⟨p, eK, hp⟩ : ∃ p : Nat, (IntKind.u64.wrap a1).tmod ((a0.size : Int) + 2) = (p : Int) ∧ p < a0.size + 2 := by
    have u0 : 0 ≤ IntKind.u64.wrap a1 := by
      unfold IntKind.wrap
      simp [IntKind.signed, IntKind.bits]
      omega
    rw [Int.tmod_eq_emod_of_nonneg u0]
    have b1 := Int.emod_nonneg (IntKind.u64.wrap a1) (b := (a0.size : Int) + 2) (by omega)
    have b2 := Int.emod_lt_of_pos (IntKind.u64.wrap a1) (b := (a0.size : Int) + 2) (by omega)
    exact ⟨((IntKind.u64.wrap a1) % ((a0.size : Int) + 2)).toNat, by omega, by omega⟩
  have kb := fun W => bytes_key (sealS a0) _ p hT (by omega) hp a2 w2 W
  have ch := openE_changed (s := a0) (u := setT (sealS a0) p a2) (p := p) (by rw [setT_size, hT]) hp (setT_other _ _ _)
  have sm := setT_same (sealS a0) p a2 (by omega) u8.1 u8.2
  have lt := byteZ_lt (sealS a0) p
  have k8' := fun W => open_call (setT (sealS a0) p a2) W (by rw [setT_size, hT]; omega)
  obtain ⟨U, eU⟩ : ∃ U, setT (sealS a0) p a2 = U := ⟨_, rfl⟩
  obtain ⟨Ut, eUt⟩ : ∃ Ut, openT U = Ut := ⟨_, rfl⟩
  obtain ⟨T, eT⟩ : ∃ T, sealS a0 = T := ⟨_, rfl⟩
  rw [eU] at kb ch sm k8'
  rw [eT] at k16 k8 hT ch kb lt
  rw [eUt] at k8'
  obtain ⟨X, eX⟩ : ∃ X, byteZ T p = X := ⟨_, rfl⟩
  rw [eX] at kb ch lt
  obtain ⟨u0, u1⟩ := u8
  have hp' : (p : Int) < (a0.size : Int) + 2 := by omega
  clear eT h eU eUt eX
  by_cases g1 : (X : Int) = a2
  · have g1' : ((X : Int) == a2) = true := by simpa using g1
    clear g1 ch sm
    go_enter Try.func6, Try.ntmps6
    go_wp2_with (first
      | (go_at_call 26; refine (k26 _).mono ?_; rintro e W1 ⟨rfl, hb1⟩)
      | (go_at_call 16; refine (k16 _).mono ?_; rintro e W2 ⟨rfl, hb2⟩; replace hb1 := below_then hb1 (below_one hb2); clear hb2)
      | (go_at_call 8; refine (k8 _).mono ?_; rintro e W3 ⟨rfl, hb2⟩; clear k8; replace hb1 := below_then hb1 hb2; clear hb2; obtain ⟨c, W4, ec, cx, fz, hb2, cv⟩ := kb W3; replace hb1 := below_then hb1 hb2; clear hb2 kb)
      | (go_at_call 8; refine (k8' _).mono ?_; rintro e W5 ⟨rfl, hb2⟩; replace hb1 := below_then hb1 hb2; clear hb2))
    go_ret
    exact ⟨rfl, hb1⟩
  · have g1' : ((X : Int) == a2) = false := by simpa using g1
    by_cases g2 : p < a0.size
    · have g2' : decide ((p : Int) < (a0.size : Int)) = true := by simp; omega
      by_cases g3 : (X : Int) % 255 = a2 % 255
      · have g3' : ((X : Int) % 255 == a2 % 255) = true := by simpa using g3
        clear g1 g3 ch sm
        go_enter Try.func6, Try.ntmps6
        go_wp2_with (first
          | (go_at_call 26; refine (k26 _).mono ?_; rintro e W1 ⟨rfl, hb1⟩)
          | (go_at_call 16; refine (k16 _).mono ?_; rintro e W2 ⟨rfl, hb2⟩; replace hb1 := below_then hb1 (below_one hb2); clear hb2)
          | (go_at_call 8; refine (k8 _).mono ?_; rintro e W3 ⟨rfl, hb2⟩; clear k8; replace hb1 := below_then hb1 hb2; clear hb2; obtain ⟨c, W4, ec, cx, fz, hb2, cv⟩ := kb W3; replace hb1 := below_then hb1 hb2; clear hb2 kb)
          | (go_at_call 8; refine (k8' _).mono ?_; rintro e W5 ⟨rfl, hb2⟩; replace hb1 := below_then hb1 hb2; clear hb2))
        go_ret
        exact ⟨rfl, hb1⟩
      · have g3' : ((X : Int) % 255 == a2 % 255) = false := by simpa using g3
        have k := ch (by omega) (fun _ => by omega)
        rw [k] at k8'
        clear g1 g3 k ch sm
        go_enter Try.func6, Try.ntmps6
        go_wp2_with (first
          | (go_at_call 26; refine (k26 _).mono ?_; rintro e W1 ⟨rfl, hb1⟩)
          | (go_at_call 16; refine (k16 _).mono ?_; rintro e W2 ⟨rfl, hb2⟩; replace hb1 := below_then hb1 (below_one hb2); clear hb2)
          | (go_at_call 8; refine (k8 _).mono ?_; rintro e W3 ⟨rfl, hb2⟩; clear k8; replace hb1 := below_then hb1 hb2; clear hb2; obtain ⟨c, W4, ec, cx, fz, hb2, cv⟩ := kb W3; replace hb1 := below_then hb1 hb2; clear hb2 kb)
          | (go_at_call 8; refine (k8' _).mono ?_; rintro e W5 ⟨rfl, hb2⟩; replace hb1 := below_then hb1 hb2; clear hb2))
        go_ret
        exact ⟨rfl, hb1⟩
    · have g2' : decide ((p : Int) < (a0.size : Int)) = false := by simp; omega
      have k := ch (by omega) (fun h => absurd h g2)
      rw [k] at k8'
      clear g1 k ch sm
      go_enter Try.func6, Try.ntmps6
      go_wp2_with (first
        | (go_at_call 26; refine (k26 _).mono ?_; rintro e W1 ⟨rfl, hb1⟩)
        | (go_at_call 16; refine (k16 _).mono ?_; rintro e W2 ⟨rfl, hb2⟩; replace hb1 := below_then hb1 (below_one hb2); clear hb2)
        | (go_at_call 8; refine (k8 _).mono ?_; rintro e W3 ⟨rfl, hb2⟩; clear k8; replace hb1 := below_then hb1 hb2; clear hb2; obtain ⟨c, W4, ec, cx, fz, hb2, cv⟩ := kb W3; replace hb1 := below_then hb1 hb2; clear hb2 kb)
        | (go_at_call 8; refine (k8' _).mono ?_; rintro e W5 ⟨rfl, hb2⟩; replace hb1 := below_then hb1 hb2; clear hb2))
      go_ret
      exact ⟨rfl, hb1⟩

theorem contract (H : Type) (enc : TypeId × Value → H) (W : World) (base : Nat) (args : Array Value) (ds gs : List (DataW H)) (before : List MemPlace)
    (hval0 : ∀ (j : Nat) t v, Try.f6.params[j]? = some t → args[j]? = some v → Value.okWide Try.prog W .any base t v)
    (hW : DataW.Whole enc Try.prog Try.f6.params.toList Rows.bytesSealedSpec.vars false W args.toList ds gs before) :
    Calls Try.prog 6 args W fun e W' => ∃ v, e = .returned v ∧ Rows.bytesSealedSpec.post enc Try.prog Try.f6 false true false false W args v W' := by
  have hval : ∀ (j : Nat) t v, Try.f6.params[j]? = some t → args[j]? = some v → Value.okWide Try.prog W .any base t v := hval0
  have hW' := hW
  obtain ⟨p, q, hA0, hV, rfl, hfz, hnd⟩ := hW
  have hA : DataW.TrodAll enc Try.prog W 0 (fun _ => true) true Try.f6.params.toList args.toList ds p := hA0
  rw [Try.params6] at hA hval
  obtain ⟨v0, vs0, d0, ds0, p0, q0, hargs, rfl, rfl, h0, r0⟩ := trodAll_cons hA
  obtain ⟨v1, vs1, d1, ds1, p1, q1, rfl, rfl, rfl, h1, r1⟩ := trodAll_cons r0
  obtain ⟨v2, vs2, d2, ds2, p2, q2, rfl, rfl, rfl, h2, r2⟩ := trodAll_cons r1
  obtain ⟨rfl, rfl, rfl⟩ := trodAll_nil r2
  obtain rfl : args = #[v0, v1, v2] := by cases args; simp_all
  obtain ⟨rfl, rfl⟩ := trodVars_none hV
  obtain ⟨a0, rfl, rfl, rfl, w0⟩ := Go.ChangeMaps.open_string Try.underlying9 (hval 0 9 v0 rfl rfl) h0
  obtain ⟨a1, rfl, rfl, rfl, w1⟩ := open_int Try.underlying3 (hval 1 3 v1 rfl rfl) h1
  obtain ⟨a2, rfl, rfl, rfl, w2⟩ := open_int Try.underlying5 (hval 2 5 v2 rfl rfl) h2
  clear hA0 hval0
  refine (walk a0 a1 a2 W w0 w1 w2).mono fun e W' ⟨he, bel⟩ => ?_
  subst he
  exact ⟨_, rfl, _, _, _, [], _, [], hW', trodAll_mk1 (shut_bool Try.underlying4 _), (trodAll_cons_mk (Go.ChangeMaps.shut_string Try.underlying9 w0) (trodAll_cons_mk (shut_int Try.underlying3 w1) (trodAll_cons_mk (shut_int Try.underlying5 w2) trodAll_mk0))), rfl, bel.frame _, fun h => by cases h⟩

set_option maxRecDepth 100000 in
theorem lifted (os : Os) (started : os.Started) (H : Type) (enc : TypeId × Value → H) :
    ReturnsInHanded {} Try.checked os 6 .any (Rows.bytesSealedSpec.pre6 enc Try.prog Try.f6 Rows.bytesSealedRow.domain false) (Rows.bytesSealedSpec.post enc Try.prog Try.f6 false true false false) := by
  refine returnsInHanded_of_change (C := Try.checked) own started (by kernel_rfl) Try.func6
    (ChangeSpec.witness6 (enc := enc) (C := Try.checked) false ⟨#[], #[.string ⟨#[]⟩, .int .i64 0, .int .u8 0], []⟩ 8 (by kernel_rfl) (by kernel_rfl) (by kernel_rfl) (by kernel_rfl)) ?_
  intro W base args ds gs before hval hW _ _
  exact contract H enc W base args ds gs before hval hW

theorem over : Rows.bytesSealedRow.holds Try.pinned (OpenSpec.ofChange Rows.bytesSealedSpec) :=
  OpenClaim.holds_of_wide 6 Try.f6 rfl rfl rfl rfl rfl rfl rfl ⟨rfl, rfl, rfl, rfl, rfl⟩ rfl rfl rfl rfl rfl (by kernel_rfl) Try.func6 (by kernel_rfl)
    (of_decide_eq_true (by kernel_rfl)) (by unfold Func.isWrapper; first | (rw [if_pos (by decide +kernel)]; kernel_rfl) | (rw [if_neg (by decide +kernel)]; exact ⟨rfl, rfl⟩))
    (fun os started H enc _ => lifted os started H enc)

theorem proved : Rows.BytesSealedSaid :=
  over
#print axioms proved
end Go.Proofs.Ytipjjciafcpgfaa.bytesSealed

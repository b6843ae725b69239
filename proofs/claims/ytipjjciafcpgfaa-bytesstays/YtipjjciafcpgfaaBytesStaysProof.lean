/- Of any text (longer ones than 2000 bytes are passed over): where the program's reader has an error behind its first weights, it stays whatever is read behind it (the first thirty readings of any row), and nothing is read any more; no condition. -/
import Derived.Test.YtipjjciafcpgfaaRows
import Derived.Test.YtipjjciafcpgfaaView
import Derived.Test.YtipjjciafcpgfaaOwn
import Derived.Test.YtipjjciafcpgfaaWorks
import Derived.Test.YtipjjciafcpgfaaTexts
import Derived.Test.YtipjjciafcpgfaaSums
import Derived.Test.YtipjjciafcpgfaaSeals
import Derived.Test.YtipjjciafcpgfaaOpens
import Derived.Test.YtipjjciafcpgfaaReader
import Derived.Test.YtipjjciafcpgfaaTwos
import Derived.Test.YtipjjciafcpgfaaRdWts
import Derived.Test.YtipjjciafcpgfaaRefWts
import Derived.Test.YtipjjciafcpgfaaLooks
import Derived.WalkKit
import Derived.ProofKit
import Derived.OpenShut
import Derived.ChangeOld
import Derived.Below
import Derived.WalkLawsBesides
import Derived.ChangeMaps5
namespace Go.Proofs.Ytipjjciafcpgfaa.bytesStays
open Go.ChangeShapes Go.WideShapes Go.ChangeAt Go.RowKit
set_option linter.unusedVariables false
set_option linter.unusedSimpArgs false

theorem own : ownKnob Try.prog.godebug = none := by kernel_rfl
theorem laidOut : laidOutB Try.prog = true := by kernel_rfl

theorem two_stays {t : TypeId} {S : ByteArray} {E : Int} (hE : E ≠ 0) : twoV S E = 0 ∧ twoS S E = S ∧ twoE S E = E :=
  ⟨by unfold twoV; rw [if_pos (.inl hE)], by unfold twoS; rw [if_pos (.inl hE)], by unfold twoE; rw [if_pos hE]⟩
theorem wt_stays {S : ByteArray} {E : Int} (hE : E ≠ 0) (n : Int) : wtV S E n = [] ∧ wtS S E n = S ∧ wtE S E n = E := by
  obtain ⟨h1, h2, h3⟩ := two_stays (t := 0) (S := S) hE
  have e : wtE S E n = E := by unfold wtE; rw [h3, if_pos hE]
  exact ⟨by unfold wtV; rw [e, if_neg hE], by unfold wtS; rw [e, if_neg hE, h2], e⟩
theorem end_stays {S : ByteArray} {E : Int} (hE : E ≠ 0) : endV S E = E := by unfold endV; rw [if_neg (by omega)]
theorem wtE_list (s : ByteArray) (n : Int) : wtE s 0 n = 0 ∨ wtE s 0 n = 21 ∨ wtE s 0 n = 22 := by
  unfold wtE twoE
  repeat' split
  all_goals simp_all
theorem weights_len {w : World} {b : Nat} {s : ByteArray} {e : Int} (h : Rd 55 w b s e) (n : Int) (m : Nat) (hm : (wtV s e n).length = m) : Calls Try.prog 22 #[.pointer (some ⟨b, 0, none⟩), .int .i64 n] w fun r w' =>
    (∃ a c, r = .returned (.slice a m c)) ∧ Rd 55 w' b (wtS s e n) (wtE s e n) ∧ Only b w w' :=
  (weights_reader h n).mono fun r w' ⟨⟨a, k, c, hr, hre, _⟩, q⟩ => ⟨⟨a, c, by rw [hr, ← hm, hre.len]⟩, q⟩


set_option maxHeartbeats 4000000 in
theorem walk (a0 : ByteArray) (a1 : Int) (a2 : Option Addr) (n2 c2 : Nat) (z2 : List Int) (w : World) (w0 : a0.size ≤ maxLen) (w1 : (Lit.int .i64 a1).wf = true) (w2 : Reads .i64 w a2 n2 z2) (e2 : a2 = none → c2 = 0) (l2 : n2 ≤ c2) :
    Calls Try.prog 7 #[.string a0, .int .i64 a1, .slice a2 n2 c2] w fun e w' => e = .returned (.bool true) ∧ Below w.heap.size w w' := by
  unfold maxLen at w0
  have w0' : a0.size ≤ 9223372036854775807 := w0
  clear w0
  have hm := w2.max
  have k26 := works_call
  by_cases h : 2000 < a0.size
  · have h' : (2000 : Int) < (a0.size : Int) := by omega
    go_enter Try.func7, Try.ntmps7
    go_wp2_with (go_at_call 26; refine (k26 _).mono ?_; rintro e W1 ⟨rfl, hb1⟩)
    go_ret
    exact ⟨rfl, hb1⟩
  have hn : (a0.size : Int) ≤ 2000 := by omega
  have k18 := fun W => newReader_call a0 W
  obtain ⟨M, eM⟩ : ∃ M, (wtV a0 0 a1).length = M := ⟨_, rfl⟩
  have k22 := fun W b (r : Rd 55 W b a0 0) => weights_len r a1 M eM
  have hl := wtE_list a0 a1
  have hv : wtE a0 0 a1 ≠ 0 → wtV a0 0 a1 = [] := fun h => by unfold wtV; rw [if_neg h]
  obtain ⟨S, eS⟩ : ∃ S, wtS a0 0 a1 = S := ⟨_, rfl⟩
  obtain ⟨E, eE⟩ : ∃ E, wtE a0 0 a1 = E := ⟨_, rfl⟩
  rw [eS, eE] at k22
  rw [eE] at hl hv
  have k24 := fun W b (r : Rd 55 W b S E) => end_reader r
  by_cases hE : E = 0
  · subst hE
    have hY : endV S 0 = 0 ∨ endV S 0 = 23 := by unfold endV; split <;> simp
    obtain ⟨Y, eY⟩ : ∃ Y, endV S 0 = Y := ⟨_, rfl⟩
    rw [eY] at k24 hY
    clear eS eE eY hv hl eM h
    rcases hY with rfl | rfl
    · by_cases g : 0 < M
      · have g' : decide ((0 : Int) < (M : Int)) = true := by simp; omega
        have g'' : decide (0 < M) = true := by simp; omega
        go_enter Try.func7, Try.ntmps7
        go_wp2_with (first
          | (go_at_call 26; refine (k26 _).mono ?_; rintro e W1 ⟨rfl, hb1⟩)
          | (go_at_call 18; refine (k18 _).mono ?_; rintro e W2 ⟨rfl, hw⟩; have r0 := Rd.new 55 W1 a0 0; have b0 := below_new hb1 (.cells #[.string a0, .int .i64 0] 55); rw [← hw] at r0 b0; clear hw)
          | (go_at_call 22; refine (k22 _ _ r0).mono ?_; rintro e W3 ⟨⟨p, q, rfl⟩, r1, o1⟩; replace b0 := Only.below b0 hb1.size b0.size o1; clear o1)
          | (go_at_call 24; refine (k24 _ _ r1).mono ?_; rintro e W4 ⟨rfl, hw⟩; obtain rfl := hw.symm))
        go_ret
        exact ⟨rfl, b0⟩
      · obtain rfl : M = 0 := by omega
        go_enter Try.func7, Try.ntmps7
        go_wp2_with (first
          | (go_at_call 26; refine (k26 _).mono ?_; rintro e W1 ⟨rfl, hb1⟩)
          | (go_at_call 18; refine (k18 _).mono ?_; rintro e W2 ⟨rfl, hw⟩; have r0 := Rd.new 55 W1 a0 0; have b0 := below_new hb1 (.cells #[.string a0, .int .i64 0] 55); rw [← hw] at r0 b0; clear hw)
          | (go_at_call 22; refine (k22 _ _ r0).mono ?_; rintro e W3 ⟨⟨p, q, rfl⟩, r1, o1⟩; replace b0 := Only.below b0 hb1.size b0.size o1; clear o1)
          | (go_at_call 24; refine (k24 _ _ r1).mono ?_; rintro e W4 ⟨rfl, hw⟩; obtain rfl := hw.symm))
        go_ret
        exact ⟨rfl, b0⟩
    · by_cases g : 0 < M
      · have g' : decide ((0 : Int) < (M : Int)) = true := by simp; omega
        have g'' : decide (0 < M) = true := by simp; omega
        go_enter Try.func7, Try.ntmps7
        go_wp2_with (first
          | (go_at_call 26; refine (k26 _).mono ?_; rintro e W1 ⟨rfl, hb1⟩)
          | (go_at_call 18; refine (k18 _).mono ?_; rintro e W2 ⟨rfl, hw⟩; have r0 := Rd.new 55 W1 a0 0; have b0 := below_new hb1 (.cells #[.string a0, .int .i64 0] 55); rw [← hw] at r0 b0; clear hw)
          | (go_at_call 22; refine (k22 _ _ r0).mono ?_; rintro e W3 ⟨⟨p, q, rfl⟩, r1, o1⟩; replace b0 := Only.below b0 hb1.size b0.size o1; clear o1)
          | (go_at_call 24; refine (k24 _ _ r1).mono ?_; rintro e W4 ⟨rfl, hw⟩; obtain rfl := hw.symm))
        go_ret
        exact ⟨rfl, b0⟩
      · obtain rfl : M = 0 := by omega
        go_enter Try.func7, Try.ntmps7
        go_wp2_with (first
          | (go_at_call 26; refine (k26 _).mono ?_; rintro e W1 ⟨rfl, hb1⟩)
          | (go_at_call 18; refine (k18 _).mono ?_; rintro e W2 ⟨rfl, hw⟩; have r0 := Rd.new 55 W1 a0 0; have b0 := below_new hb1 (.cells #[.string a0, .int .i64 0] 55); rw [← hw] at r0 b0; clear hw)
          | (go_at_call 22; refine (k22 _ _ r0).mono ?_; rintro e W3 ⟨⟨p, q, rfl⟩, r1, o1⟩; replace b0 := Only.below b0 hb1.size b0.size o1; clear o1)
          | (go_at_call 24; refine (k24 _ _ r1).mono ?_; rintro e W4 ⟨rfl, hw⟩; obtain rfl := hw.symm))
        go_ret
        exact ⟨rfl, b0⟩
  · have h0 := hv hE
    rw [h0] at eM
    obtain rfl : 0 = M := eM
    obtain ⟨t1, t2, t3⟩ := two_stays (t := 0) (S := S) hE
    have j19 := fun W b (r : Rd 55 W b S E) => two_reader r
    rw [t1, t2, t3] at j19
    have j22 := fun W b (r : Rd 55 W b S E) n => weights_len r n 0 (by rw [(wt_stays hE n).1]; rfl)
    have j22' : ∀ W b (r : Rd 55 W b S E) n, Calls Try.prog 22 #[.pointer (some ⟨b, 0, none⟩), .int .i64 n] W fun r w' => (∃ a c, r = .returned (.slice a 0 c)) ∧ Rd 55 w' b S E ∧ Only b W w' := fun W b r n => by
      have := j22 W b r n
      rwa [(wt_stays hE n).2.1, (wt_stays hE n).2.2] at this
    rw [end_stays hE] at k24
    have hE23 : E ≠ 23 := by omega
    have f0 : (E == 0) = false := by simpa using hE
    have f23 : (E == 23) = false := by simpa using hE23
    clear eS eE hv hl h h0 t1 t2 t3 j22 hE hE23
    go_enter Try.func7, Try.ntmps7
    go_wp2_with (first
      | (go_at_call 26; refine (k26 _).mono ?_; rintro e W1 ⟨rfl, hb1⟩)
      | (go_at_call 18; refine (k18 _).mono ?_; rintro e W2 ⟨rfl, hw⟩; have r0 := Rd.new 55 W1 a0 0; have b0 := below_new hb1 (.cells #[.string a0, .int .i64 0] 55); rw [← hw] at r0 b0; clear hw)
      | (go_at_call 22; refine (k22 _ _ r0).mono ?_; rintro e W3 ⟨⟨p, q, rfl⟩, r1, o1⟩; replace b0 := Only.below b0 hb1.size b0.size o1; clear o1)
      | (go_at_call 24; refine (k24 _ _ r1).mono ?_; rintro e W4 ⟨rfl, hw⟩; obtain rfl := hw.symm))
    clear k26 k18 k22
    have hb := hb1.size
    go_loopw [10] (fun i wr => ∃ k : Nat, k ≤ 30 ∧ i = .int .i64 k ∧ Rd 55 wr W1.heap.size S E ∧ Below w.heap.size w wr) (fun i _ => 30 - (intOf i).toNat)
    case atStart => exact ⟨0, by omega, rfl, r1, b0⟩
    case round =>
      clear r0 r1 b0
      obtain ⟨k, hk, rfl, r1, hbr⟩ := hrel
      by_cases hlt : k < n2 ∧ k < 30
      · obtain ⟨h1, h2⟩ := hlt
        obtain ⟨x, rfl⟩ := w2.some_ (by omega)
        have cx := (w2.below hbr).cell x rfl k h1
        obtain ⟨Z, eZ⟩ : ∃ Z, z2.getD k 0 = Z := ⟨_, rfl⟩
        rw [eZ] at cx
        clear eZ
        by_cases hz : Z < 0
        · go_wp2_with (first
            | (go_at_call 19; refine (j19 _ _ r1).mono ?_; rintro e W5 ⟨rfl, r2, o1⟩; have hb2 := Only.below hbr hb hbr.size o1; clear o1)
            | (go_at_call 24; refine (k24 _ _ r2).mono ?_; rintro e W6 ⟨rfl, hw⟩; obtain rfl := hw.symm))
          go_roundw
          case rel => exact ⟨k + 1, by omega, by go_num, r2, hb2⟩
          case measure => simp [intOf]; omega
        · have hz' : (0 : Int) ≤ Z := by omega
          go_wp2_with (first
            | (go_at_call 22; refine (j22' _ _ r1 _).mono ?_; rintro e W5 ⟨⟨p, q, rfl⟩, r2, o1⟩; have hb2 := Only.below hbr hb hbr.size o1; clear o1)
            | (go_at_call 24; refine (k24 _ _ r2).mono ?_; rintro e W6 ⟨rfl, hw⟩; obtain rfl := hw.symm))
          go_roundw
          case rel => exact ⟨k + 1, by omega, by go_num, r2, hb2⟩
          case measure => simp [intOf]; omega
      · by_cases h1 : k < n2
        · have e : 30 = k := by omega
          subst e
          have h30 : (30 : Int) < (n2 : Int) := by omega
          go_wp2
          go_ret
          exact ⟨rfl, hbr⟩
        · have h1' : ¬ ((k : Int) < (n2 : Int)) := by omega
          go_wp2
          go_ret
          exact ⟨rfl, hbr⟩

theorem contract (H : Type) (enc : TypeId × Value → H) (W : World) (base : Nat) (args : Array Value) (ds gs : List (DataW H)) (before : List MemPlace)
    (hval0 : ∀ (j : Nat) t v, Try.f7.params[j]? = some t → args[j]? = some v → Value.okWide Try.prog W .any base t v)
    (hW : DataW.Whole enc Try.prog Try.f7.params.toList Rows.bytesStaysSpec.vars false W args.toList ds gs before) :
    Calls Try.prog 7 args W fun e W' => ∃ v, e = .returned v ∧ Rows.bytesStaysSpec.post enc Try.prog Try.f7 false true false false W args v W' := by
  have hval : ∀ (j : Nat) t v, Try.f7.params[j]? = some t → args[j]? = some v → Value.okWide Try.prog W .any base t v := hval0
  have hW' := hW
  obtain ⟨p, q, hA0, hV, rfl, hfz, hnd⟩ := hW
  have hA : DataW.TrodAll enc Try.prog W 0 (fun _ => true) true Try.f7.params.toList args.toList ds p := hA0
  rw [Try.params7] at hA hval
  obtain ⟨v0, vs0, d0, ds0, p0, q0, hargs, rfl, rfl, h0, r0⟩ := trodAll_cons hA
  obtain ⟨v1, vs1, d1, ds1, p1, q1, rfl, rfl, rfl, h1, r1⟩ := trodAll_cons r0
  obtain ⟨v2, vs2, d2, ds2, p2, q2, rfl, rfl, rfl, h2, r2⟩ := trodAll_cons r1
  obtain ⟨rfl, rfl, rfl⟩ := trodAll_nil r2
  obtain rfl : args = #[v0, v1, v2] := by cases args; simp_all
  obtain ⟨rfl, rfl⟩ := trodVars_none hV
  obtain ⟨a0, rfl, rfl, rfl, w0⟩ := Go.ChangeMaps.open_string Try.underlying9 (hval 0 9 v0 rfl rfl) h0
  obtain ⟨a1, rfl, rfl, rfl, w1⟩ := open_int Try.underlying3 (hval 1 3 v1 rfl rfl) h1
  obtain ⟨a2, n2, c2, rfl⟩ := okWide_slice Try.underlying31 (hval 2 31 v2 rfl rfl)
  have k2 := h2
  have lt2 : ∀ x ∈ p2, x.block < W.heap.size := by obtain ⟨m, hm⟩ := k2; exact DataW.trod_lt m _ _ _ hm
  obtain ⟨z2, w2, e2, l2, s2⟩ : ∃ zs, Reads .i64 W a2 n2 zs ∧ (a2 = none → c2 = 0) ∧ n2 ≤ c2 ∧ (n2 = 0 ∨ ∃ el sp, d2 = .slice el sp ∧ n2 ≤ el.length + sp.length) := by
    obtain ⟨fuel, hf⟩ := h2
    rcases open_ints Try.underlying31 Try.underlying3 (by kernel_rfl) hf with ⟨hcs, hd⟩ | ⟨x, l, c, zs, hcs, _, hl, hm, hz, hd, hcell, hwz⟩
    · simp [Value.cells] at hcs
      obtain ⟨rfl, rfl, rfl⟩ := hcs
      exact ⟨[], Reads.nil _ _, fun _ => rfl, Nat.le_refl _, .inl rfl⟩
    · simp [Value.cells] at hcs
      obtain ⟨rfl, rfl, rfl⟩ := hcs
      exact ⟨_, Reads.of_open hl hm (by simpa using hz) hcell hwz, (fun h => by cases h), hl, .inr ⟨_, _, congrArg Prod.fst hd, open_length (by simpa using hz) hl⟩⟩
  clear hA0 hval0
  refine (walk a0 a1 a2 n2 c2 z2 W w0 w1 w2 e2 l2).mono fun e W' ⟨he, bel⟩ => ?_
  subst he
  exact ⟨_, rfl, _, _, _, [], _, [], hW', trodAll_mk1 (shut_bool Try.underlying4 _), (trodAll_cons_mk (Go.ChangeMaps.shut_string Try.underlying9 w0) (trodAll_cons_mk (shut_int Try.underlying3 w1) (trodAll_cons_mk (Below.trod laidOut (by kernel_rfl) (of_decide_eq_true (by kernel_rfl)) k2 bel lt2) trodAll_mk0))), rfl, bel.frame _, fun h => by cases h⟩

set_option maxRecDepth 100000 in
theorem lifted (os : Os) (started : os.Started) (H : Type) (enc : TypeId × Value → H) :
    ReturnsInHanded {} Try.checked os 7 .any (Rows.bytesStaysSpec.pre6 enc Try.prog Try.f7 Rows.bytesStaysRow.domain false) (Rows.bytesStaysSpec.post enc Try.prog Try.f7 false true false false) := by
  refine returnsInHanded_of_change (C := Try.checked) own started (by kernel_rfl) Try.func7
    (ChangeSpec.witness6 (enc := enc) (C := Try.checked) false ⟨#[], #[.string ⟨#[]⟩, .int .i64 0, .slice none 0 0], []⟩ 8 (by kernel_rfl) (by kernel_rfl) (by kernel_rfl) (by kernel_rfl)) ?_
  intro W base args ds gs before hval hW _ _
  exact contract H enc W base args ds gs before hval hW

theorem over : Rows.bytesStaysRow.holds Try.pinned (OpenSpec.ofChange Rows.bytesStaysSpec) :=
  OpenClaim.holds_of_wide 7 Try.f7 rfl rfl rfl rfl rfl rfl rfl ⟨rfl, rfl, rfl, rfl, rfl⟩ rfl rfl rfl rfl rfl (by kernel_rfl) Try.func7 (by kernel_rfl)
    (of_decide_eq_true (by kernel_rfl)) (by unfold Func.isWrapper; first | (rw [if_pos (by decide +kernel)]; kernel_rfl) | (rw [if_neg (by decide +kernel)]; exact ⟨rfl, rfl⟩))
    (fun os started H enc _ => lifted os started H enc)

theorem proved : Rows.BytesStaysSaid :=
  over
#print axioms proved
end Go.Proofs.Ytipjjciafcpgfaa.bytesStays

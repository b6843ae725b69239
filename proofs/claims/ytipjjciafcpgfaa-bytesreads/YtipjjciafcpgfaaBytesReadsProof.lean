/- Of any text, and of any row of readings (numbers and weights, as many as the row says, the first fifty of them), the program's reader answers what the document's does, each time and at the end, and leaves what was handed in as it was; no condition. -/
import Derived.Test.YtipjjciafcpgfaaRows
import Derived.Test.YtipjjciafcpgfaaView
import Derived.Test.YtipjjciafcpgfaaOwn
import Derived.Test.YtipjjciafcpgfaaTexts
import Derived.Test.YtipjjciafcpgfaaSums
import Derived.Test.YtipjjciafcpgfaaSeals
import Derived.Test.YtipjjciafcpgfaaOpens
import Derived.Test.YtipjjciafcpgfaaReader
import Derived.Test.YtipjjciafcpgfaaTwos
import Derived.Test.YtipjjciafcpgfaaRdWts
import Derived.Test.YtipjjciafcpgfaaRefWts
import Derived.WalkKit
import Derived.ProofKit
import Derived.OpenShut
import Derived.ChangeOld
import Derived.Below
import Derived.WalkLawsBesides
import Derived.ChangeMaps5
import Derived.Deep.RegionWith
namespace Go.Proofs.Ytipjjciafcpgfaa.bytesReads
open Go.ChangeShapes Go.WideShapes Go.ChangeAt Go.RowKit
set_option linter.unusedVariables false
set_option linter.unusedSimpArgs false

theorem own : ownKnob Try.prog.godebug = none := by kernel_rfl
theorem laidOut : laidOutB Try.prog = true := by kernel_rfl



set_option maxHeartbeats 2000000 in
theorem walk (a0 : ByteArray) (a1 : Option Addr) (n1 c1 : Nat) (z1 : List Int) (w : World) (w0 : a0.size ≤ maxLen) (w1 : Reads .i64 w a1 n1 z1) (e1 : a1 = none → c1 = 0) (l1 : n1 ≤ c1) :
    Calls Try.prog 4 #[.string a0, .slice a1 n1 c1] w fun e w' => e = .returned (.bool true) ∧ Below w.heap.size w w' := by
  unfold maxLen at w0
  have w0' : a0.size ≤ 9223372036854775807 := w0
  clear w0
  have hm := w1.max
  have k18 := newReader_call a0 w
  go_enter Try.func4, Try.ntmps4
  go_wp2_with (go_at_call 18; refine k18.mono ?_; rintro e W1 ⟨rfl, hw⟩; subst hw)
  have st : Rd 55 ((w.alloc (Obj.cells #[Value.string a0, Value.int IntKind.i64 0] 55)).alloc (Obj.cells #[Value.string a0, Value.int IntKind.i64 0] 36)) w.heap.size a0 0 ∧ Rd 36 ((w.alloc (Obj.cells #[Value.string a0, Value.int IntKind.i64 0] 55)).alloc (Obj.cells #[Value.string a0, Value.int IntKind.i64 0] 36)) (w.heap.size + 1) a0 0 ∧ Below w.heap.size w ((w.alloc (Obj.cells #[Value.string a0, Value.int IntKind.i64 0] 55)).alloc (Obj.cells #[Value.string a0, Value.int IntKind.i64 0] 36)) := by
    refine ⟨(Rd.new 55 w a0 0).kept (below_new (Below.refl _ _) _), ?_, below_new (below_new (Below.refl _ _) _) _⟩
    have := Rd.new 36 (w.alloc (Obj.cells #[Value.string a0, Value.int IntKind.i64 0] 55)) a0 0
    simpa using this
  clear k18
  go_loopw [7] (fun i wr => ∃ (k : Nat) (s : ByteArray) (e : Int), k ≤ 50 ∧ i = .int .i64 k ∧ s.size ≤ 9223372036854775807 ∧ Rd 55 wr w.heap.size s e ∧ Rd 36 wr (w.heap.size + 1) s e ∧ Below w.heap.size w wr) (fun i _ => 50 - (intOf i).toNat)
  case atStart => exact ⟨0, a0, 0, by omega, rfl, w0', st⟩
  case round =>
    clear st
    obtain ⟨k, s, e, hk, rfl, hs, r1, r2, hbr⟩ := hrel
    by_cases hlt : k < n1 ∧ k < 50
    · obtain ⟨h1, h2⟩ := hlt
      obtain ⟨x, rfl⟩ := w1.some_ (by omega)
      have cx := (w1.below hbr).cell x rfl k h1
      have wz := w1.wf k
      obtain ⟨Z, eZ⟩ : ∃ Z, z1.getD k 0 = Z := ⟨_, rfl⟩
      rw [eZ] at cx wz
      by_cases hz : Z < 0
      · have k19 := two_reader r1
        have k20 := fun W (r : Rd 36 W (w.heap.size + 1) s e) => refTwo_reader r hs
        have hs' := Nat.le_trans (twoS_size s e) hs
        obtain ⟨V, eV⟩ : ∃ V, twoV s e = V := ⟨_, rfl⟩
        obtain ⟨S, eS⟩ : ∃ S, twoS s e = S := ⟨_, rfl⟩
        obtain ⟨E, eE⟩ : ∃ E, twoE s e = E := ⟨_, rfl⟩
        rw [eV, eS, eE] at k19 k20
        rw [eS] at hs'
        have k24 := fun W (r : Rd 55 W w.heap.size S E) => end_reader r
        have k25 := fun W (r : Rd 36 W (w.heap.size + 1) S E) => refEnd_reader r
        obtain ⟨Y, eY⟩ : ∃ Y, endV S E = Y := ⟨_, rfl⟩
        rw [eY] at k24 k25
        clear eZ eV eS eE eY wz
        go_wp2_with (first
          | (go_at_call 19; refine k19.mono ?_; rintro e W1 ⟨rfl, q1, o1⟩; have q2 := r2.other o1 (by omega); have hb1 := Only.below hbr (Nat.le_refl _) hbr.size o1)
          | (go_at_call 20; refine (k20 _ q2).mono ?_; rintro e W2 ⟨rfl, q3, o2⟩; replace q1 := q1.other o2 (by omega); replace hb1 := Only.below hb1 (by omega) hb1.size o2)
          | (go_at_call 24; refine (k24 _ q1).mono ?_; rintro e W3 ⟨rfl, hw⟩; obtain rfl := hw.symm)
          | (go_at_call 25; refine (k25 _ q3).mono ?_; rintro e W4 ⟨rfl, hw⟩; obtain rfl := hw.symm))
        go_roundw
        case rel => exact ⟨k + 1, S, E, by omega, by go_num, hs', q1, q3, hb1⟩
        case measure => simp [intOf]; omega
      · have hz' : (0 : Int) ≤ Z := by omega
        have k22 := fun W (r : Rd 55 W w.heap.size s e) => weights_reader r Z
        have k23 := fun W (r : Rd 36 W (w.heap.size + 1) s e) => refWeights_reader r Z hs
        have hs' := Nat.le_trans (wtS_size s e Z) hs
        obtain ⟨V, eV⟩ : ∃ V, wtV s e Z = V := ⟨_, rfl⟩
        obtain ⟨S, eS⟩ : ∃ S, wtS s e Z = S := ⟨_, rfl⟩
        obtain ⟨E, eE⟩ : ∃ E, wtE s e Z = E := ⟨_, rfl⟩
        rw [eV, eS, eE] at k22 k23
        rw [eS] at hs'
        have k24 := fun W (r : Rd 55 W w.heap.size S E) => end_reader r
        have k25 := fun W (r : Rd 36 W (w.heap.size + 1) S E) => refEnd_reader r
        obtain ⟨Y, eY⟩ : ∃ Y, endV S E = Y := ⟨_, rfl⟩
        rw [eY] at k24 k25
        have rd := r1.drew
        have key : ∀ W1, Only w.heap.size wr.drew W1 → W1.cell? (x.add k) = some (.int .i64 Z) ∧ Rd 36 W1 (w.heap.size + 1) s e ∧ Below w.heap.size w W1 := fun W1 o1 => by
          have hb1 := Only.below hbr.drew (Nat.le_refl _) hbr.size o1
          refine ⟨?_, r2.drew.other o1 (by omega), hb1⟩
          rw [← eZ]
          exact (w1.below hb1).cell x rfl k h1
        have lt2 := r2.lt
        have key2 : ∀ p (W1 W2 : World) m, Reads .i8 W1 p m V → (∀ x, p = some x → wr.drew.heap.size ≤ x.block) → Only (w.heap.size + 1) W1 W2 → Reads .i8 W2 p m V := fun p W1 W2 m h hf o =>
          h.other o (fun x hx _ he => by have := hf x hx; have : wr.heap.size ≤ x.block := this; omega)
        have key3 : ∀ (W2 W3 : World), (∃ m, W3 = W2.drewN m) → Rd 55 W2 w.heap.size S E → Rd 36 W2 (w.heap.size + 1) S E → Below w.heap.size w W2 → Rd 55 W3 w.heap.size S E ∧ Rd 36 W3 (w.heap.size + 1) S E ∧ Below w.heap.size w W3 := by
          rintro W2 W3 ⟨m, rfl⟩ q1 q2 q3
          exact ⟨q1.drewN m, q2.drewN m, below_drew q3 ⟨m, rfl⟩⟩
        clear eZ eV eS eE eY wz
        go_wp2
        go_region_with (first
          | (go_at_call 22; refine (k22 _ rd).mono ?_; rintro e W1 ⟨⟨p1, m1, q1, rfl, rd1, fr1⟩, rr1, o1⟩; obtain ⟨cx1, rr2, hb1⟩ := key W1 o1)
          | (go_at_call 23; refine (k23 _ rr2).mono ?_; rintro e W2 ⟨⟨p2, m2, q2, rfl, rd2⟩, rr3, o2⟩; replace rd1 := key2 _ _ _ _ rd1 fr1 o2; replace rr1 := rr1.other o2 (by omega); replace hb1 := Only.below hb1 (by omega) hb1.size o2)
          | (go_at_call 21; refine (same_call _ _ _ V _ _ _ _ rd1 rd2).mono ?_; rintro e W3 ⟨rfl, hq⟩; obtain ⟨s1, s3, hb3⟩ := key3 _ _ hq rr1 rr3 hb1; clear hq))
        all_goals
          clear k22 k23 key key2 key3 rd cx
          go_wp2_with (first
            | (go_at_call 24; refine (k24 _ s1).mono ?_; rintro e W4 ⟨rfl, hw⟩; obtain rfl := hw.symm)
            | (go_at_call 25; refine (k25 _ s3).mono ?_; rintro e W5 ⟨rfl, hw⟩; obtain rfl := hw.symm))
          go_roundw
          case rel => exact ⟨k + 1, S, E, by omega, by go_num, hs', s1, s3, hb3⟩
          case measure => simp [intOf]; omega
    · have k24 := end_reader r1
      have k25 := refEnd_reader r2
      obtain ⟨Y, eY⟩ : ∃ Y, endV s e = Y := ⟨_, rfl⟩
      rw [eY] at k24 k25
      clear eY
      by_cases h1 : k < n1
      · have e : 50 = k := by omega
        subst e
        have h50 : (50 : Int) < (n1 : Int) := by omega
        go_wp2_with (first
          | (go_at_call 24; refine k24.mono ?_; rintro e W4 ⟨rfl, hw⟩; obtain rfl := hw.symm)
          | (go_at_call 25; refine k25.mono ?_; rintro e W5 ⟨rfl, hw⟩; obtain rfl := hw.symm))
        go_ret
        exact ⟨by simp, hbr⟩
      · have h1' : ¬ ((k : Int) < (n1 : Int)) := by omega
        go_wp2_with (first
          | (go_at_call 24; refine k24.mono ?_; rintro e W4 ⟨rfl, hw⟩; obtain rfl := hw.symm)
          | (go_at_call 25; refine k25.mono ?_; rintro e W5 ⟨rfl, hw⟩; obtain rfl := hw.symm))
        go_ret
        exact ⟨by simp, hbr⟩

theorem contract (H : Type) (enc : TypeId × Value → H) (W : World) (base : Nat) (args : Array Value) (ds gs : List (DataW H)) (before : List MemPlace)
    (hval0 : ∀ (j : Nat) t v, Try.f4.params[j]? = some t → args[j]? = some v → Value.okWide Try.prog W .any base t v)
    (hW : DataW.Whole enc Try.prog Try.f4.params.toList Rows.bytesReadsSpec.vars false W args.toList ds gs before) :
    Calls Try.prog 4 args W fun e W' => ∃ v, e = .returned v ∧ Rows.bytesReadsSpec.post enc Try.prog Try.f4 false true false false W args v W' := by
  have hval : ∀ (j : Nat) t v, Try.f4.params[j]? = some t → args[j]? = some v → Value.okWide Try.prog W .any base t v := hval0
  have hW' := hW
  obtain ⟨p, q, hA0, hV, rfl, hfz, hnd⟩ := hW
  have hA : DataW.TrodAll enc Try.prog W 0 (fun _ => true) true Try.f4.params.toList args.toList ds p := hA0
  rw [Try.params4] at hA hval
  obtain ⟨v0, vs0, d0, ds0, p0, q0, hargs, rfl, rfl, h0, r0⟩ := trodAll_cons hA
  obtain ⟨v1, vs1, d1, ds1, p1, q1, rfl, rfl, rfl, h1, r1⟩ := trodAll_cons r0
  obtain ⟨rfl, rfl, rfl⟩ := trodAll_nil r1
  obtain rfl : args = #[v0, v1] := by cases args; simp_all
  obtain ⟨rfl, rfl⟩ := trodVars_none hV
  obtain ⟨a0, rfl, rfl, rfl, w0⟩ := Go.ChangeMaps.open_string Try.underlying9 (hval 0 9 v0 rfl rfl) h0
  obtain ⟨a1, n1, c1, rfl⟩ := okWide_slice Try.underlying31 (hval 1 31 v1 rfl rfl)
  have k1 := h1
  have lt1 : ∀ x ∈ p1, x.block < W.heap.size := by obtain ⟨m, hm⟩ := k1; exact DataW.trod_lt m _ _ _ hm
  obtain ⟨z1, w1, e1, l1, s1⟩ : ∃ zs, Reads .i64 W a1 n1 zs ∧ (a1 = none → c1 = 0) ∧ n1 ≤ c1 ∧ (n1 = 0 ∨ ∃ el sp, d1 = .slice el sp ∧ n1 ≤ el.length + sp.length) := by
    obtain ⟨fuel, hf⟩ := h1
    rcases open_ints Try.underlying31 Try.underlying3 (by kernel_rfl) hf with ⟨hcs, hd⟩ | ⟨x, l, c, zs, hcs, _, hl, hm, hz, hd, hcell, hwz⟩
    · simp [Value.cells] at hcs
      obtain ⟨rfl, rfl, rfl⟩ := hcs
      exact ⟨[], Reads.nil _ _, fun _ => rfl, Nat.le_refl _, .inl rfl⟩
    · simp [Value.cells] at hcs
      obtain ⟨rfl, rfl, rfl⟩ := hcs
      exact ⟨_, Reads.of_open hl hm (by simpa using hz) hcell hwz, (fun h => by cases h), hl, .inr ⟨_, _, congrArg Prod.fst hd, open_length (by simpa using hz) hl⟩⟩
  clear hA0 hval0
  refine (walk a0 a1 n1 c1 z1 W w0 w1 e1 l1).mono fun e W' ⟨he, bel⟩ => ?_
  subst he
  exact ⟨_, rfl, _, _, _, [], _, [], hW', trodAll_mk1 (shut_bool Try.underlying4 _), (trodAll_cons_mk (Go.ChangeMaps.shut_string Try.underlying9 w0) (trodAll_cons_mk (Below.trod laidOut (by kernel_rfl) (of_decide_eq_true (by kernel_rfl)) k1 bel lt1) trodAll_mk0)), rfl, bel.frame _, fun h => by cases h⟩

set_option maxRecDepth 100000 in
theorem lifted (os : Os) (started : os.Started) (H : Type) (enc : TypeId × Value → H) :
    ReturnsInHanded {} Try.checked os 4 .any (Rows.bytesReadsSpec.pre6 enc Try.prog Try.f4 Rows.bytesReadsRow.domain false) (Rows.bytesReadsSpec.post enc Try.prog Try.f4 false true false false) := by
  refine returnsInHanded_of_change (C := Try.checked) own started (by kernel_rfl) Try.func4
    (ChangeSpec.witness6 (enc := enc) (C := Try.checked) false ⟨#[], #[.string ⟨#[]⟩, .slice none 0 0], []⟩ 8 (by kernel_rfl) (by kernel_rfl) (by kernel_rfl) (by kernel_rfl)) ?_
  intro W base args ds gs before hval hW _ _
  exact contract H enc W base args ds gs before hval hW

theorem over : Rows.bytesReadsRow.holds Try.pinned (OpenSpec.ofChange Rows.bytesReadsSpec) :=
  OpenClaim.holds_of_wide 4 Try.f4 rfl rfl rfl rfl rfl rfl rfl ⟨rfl, rfl, rfl, rfl, rfl⟩ rfl rfl rfl rfl rfl (by kernel_rfl) Try.func4 (by kernel_rfl)
    (of_decide_eq_true (by kernel_rfl)) (by unfold Func.isWrapper; first | (rw [if_pos (by decide +kernel)]; kernel_rfl) | (rw [if_neg (by decide +kernel)]; exact ⟨rfl, rfl⟩))
    (fun os started H enc _ => lifted os started H enc)

theorem proved : Rows.BytesReadsSaid :=
  over
#print axioms proved
end Go.Proofs.Ytipjjciafcpgfaa.bytesReads

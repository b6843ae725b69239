/- Of any number, any weights and any text (texts longer than 20000 bytes are passed over) the program's Two, Weights, Sum, Seal and Open answer what the document's do, and leave what was handed in as it was; no condition. -/
import Derived.Test.YtipjjciafcpgfaaRows
import Derived.Test.YtipjjciafcpgfaaView
import Derived.Test.YtipjjciafcpgfaaOwn
import Derived.Test.YtipjjciafcpgfaaTexts
import Derived.Test.YtipjjciafcpgfaaSums
import Derived.Test.YtipjjciafcpgfaaSeals
import Derived.Test.YtipjjciafcpgfaaOpens
import Derived.Test.YtipjjciafcpgfaaWts
import Derived.WalkKit
import Derived.ProofKit
import Derived.OpenShut
import Derived.ChangeOld
import Derived.Below
import Derived.WalkLawsBesides
import Derived.ChangeMaps5
namespace Go.Proofs.Ytipjjciafcpgfaa.bytesWrites
open Go.ChangeShapes Go.WideShapes Go.ChangeAt Go.RowKit
set_option linter.unusedVariables false
set_option linter.unusedSimpArgs false

theorem own : ownKnob Try.prog.godebug = none := by kernel_rfl
theorem laidOut : laidOutB Try.prog = true := by kernel_rfl

theorem beq_refl_text (s : ByteArray) : (s.toList == s.toList) = true := by simp

set_option maxHeartbeats 1000000 in
theorem walk (a0 : Int) (a1 : Option Addr) (n1 c1 : Nat) (z1 : List Int) (a2 : ByteArray) (w : World) (w0 : (Lit.int .i64 a0).wf = true) (w1 : Reads .i8 w a1 n1 z1) (e1 : a1 = none → c1 = 0) (l1 : n1 ≤ c1) (w2 : a2.size ≤ maxLen) :
    Calls Try.prog 3 #[.int .i64 a0, .slice a1 n1 c1, .string a2] w fun e w' => e = .returned (.bool true) ∧ Below w.heap.size w w' := by
  unfold maxLen at w2
  by_cases h : 20000 < a2.size
  · have h' : (20000 : Int) < (a2.size : Int) := by omega
    go_enter Try.func3, Try.ntmps3
    go_wp2_with fail
    go_ret
    exact ⟨rfl, Below.refl _ _⟩
  have hn : (a2.size : Int) ≤ 20000 := by omega
  have k8 := fun W => open_call a2 W (by omega)
  have k9 := fun W => refOpen_call a2 W (by omega)
  have k10 := fun W => two_call a0 W w0
  have k11 := fun W => refTwo_call a0 W w0
  have k12 := fun W (r : Reads .i8 W a1 n1 z1) => weights_call a1 n1 c1 z1 W r l1
  have k13 := fun W (r : Reads .i8 W a1 n1 z1) => refWeights_call a1 n1 c1 z1 W r
  have k14 := fun W => sum_call a2 W (by omega)
  have k15 := fun W => refSum_call a2 W (by omega)
  have k16 := fun W => seal_call a2 W (by omega)
  have k17 := fun W => refSeal_call a2 W (by omega)
  obtain ⟨A, eA⟩ : ∃ A, openT a2 = A := ⟨_, rfl⟩
  obtain ⟨B, eB⟩ : ∃ B, openE a2 = B := ⟨_, rfl⟩
  obtain ⟨C, eC⟩ : ∃ C, two a0 = C := ⟨_, rfl⟩
  obtain ⟨D, eD⟩ : ∃ D, wtsS z1 = D := ⟨_, rfl⟩
  obtain ⟨E, eE⟩ : ∃ E, sumZ a2 = E := ⟨_, rfl⟩
  obtain ⟨G, eG⟩ : ∃ G, sealS a2 = G := ⟨_, rfl⟩
  rw [eA, eB] at k8 k9
  rw [eC] at k10 k11
  rw [eD] at k12 k13
  rw [eE] at k14 k15
  rw [eG] at k16 k17
  have qA := beq_refl_text A
  have qC := beq_refl_text C
  have qD := beq_refl_text D
  have qG := beq_refl_text G
  clear eA eB eC eD eE eG h
  have hb := Below.refl w.heap.size w
  go_enter Try.func3, Try.ntmps3
  go_wp2_with (first
    | (go_at_call 8; refine (k8 _).mono ?_; rintro e W1 ⟨rfl, hb1⟩)
    | (go_at_call 9; refine (k9 _).mono ?_; rintro e W2 ⟨rfl, hb2⟩; replace hb1 := below_then hb1 hb2; clear hb2)
    | (go_at_call 10; refine (k10 _).mono ?_; rintro e W3 ⟨rfl, hb2⟩; replace hb1 := below_then hb1 (below_one hb2); clear hb2)
    | (go_at_call 11; refine (k11 _).mono ?_; rintro e W4 ⟨rfl, hb2⟩; replace hb1 := below_then hb1 (below_one hb2); clear hb2)
    | (go_at_call 12; refine (k12 _ (w1.below hb1)).mono ?_; rintro e W5 ⟨rfl, hb2⟩; replace hb1 := below_then hb1 hb2; clear hb2)
    | (go_at_call 13; refine (k13 _ (w1.below hb1)).mono ?_; rintro e W6 ⟨rfl, hb2⟩; replace hb1 := below_then hb1 hb2; clear hb2)
    | (go_at_call 14; refine (k14 _).mono ?_; rintro e w' ⟨rfl, hw⟩; obtain rfl := hw.symm)
    | (go_at_call 15; refine (k15 _).mono ?_; rintro e w' ⟨rfl, hw⟩; obtain rfl := hw.symm)
    | (go_at_call 16; refine (k16 _).mono ?_; rintro e W7 ⟨rfl, hb2⟩; replace hb1 := below_then hb1 (below_one hb2); clear hb2)
    | (go_at_call 17; refine (k17 _).mono ?_; rintro e W8 ⟨rfl, hb2⟩; replace hb1 := below_then hb1 (below_one hb2); clear hb2))
  go_ret
  exact ⟨rfl, hb1⟩

theorem contract (H : Type) (enc : TypeId × Value → H) (W : World) (base : Nat) (args : Array Value) (ds gs : List (DataW H)) (before : List MemPlace)
    (hval0 : ∀ (j : Nat) t v, Try.f3.params[j]? = some t → args[j]? = some v → Value.okWide Try.prog W .any base t v)
    (hW : DataW.Whole enc Try.prog Try.f3.params.toList Rows.bytesWritesSpec.vars false W args.toList ds gs before) :
    Calls Try.prog 3 args W fun e W' => ∃ v, e = .returned v ∧ Rows.bytesWritesSpec.post enc Try.prog Try.f3 false true false false W args v W' := by
  have hval : ∀ (j : Nat) t v, Try.f3.params[j]? = some t → args[j]? = some v → Value.okWide Try.prog W .any base t v := hval0
  have hW' := hW
  obtain ⟨p, q, hA0, hV, rfl, hfz, hnd⟩ := hW
  have hA : DataW.TrodAll enc Try.prog W 0 (fun _ => true) true Try.f3.params.toList args.toList ds p := hA0
  rw [Try.params3] at hA hval
  obtain ⟨v0, vs0, d0, ds0, p0, q0, hargs, rfl, rfl, h0, r0⟩ := trodAll_cons hA
  obtain ⟨v1, vs1, d1, ds1, p1, q1, rfl, rfl, rfl, h1, r1⟩ := trodAll_cons r0
  obtain ⟨v2, vs2, d2, ds2, p2, q2, rfl, rfl, rfl, h2, r2⟩ := trodAll_cons r1
  obtain ⟨rfl, rfl, rfl⟩ := trodAll_nil r2
  obtain rfl : args = #[v0, v1, v2] := by cases args; simp_all
  obtain ⟨rfl, rfl⟩ := trodVars_none hV
  obtain ⟨a0, rfl, rfl, rfl, w0⟩ := open_int Try.underlying3 (hval 0 3 v0 rfl rfl) h0
  obtain ⟨a1, n1, c1, rfl⟩ := okWide_slice Try.underlying22 (hval 1 22 v1 rfl rfl)
  have k1 := h1
  have lt1 : ∀ x ∈ p1, x.block < W.heap.size := by obtain ⟨m, hm⟩ := k1; exact DataW.trod_lt m _ _ _ hm
  obtain ⟨z1, w1, e1, l1, s1⟩ : ∃ zs, Reads .i8 W a1 n1 zs ∧ (a1 = none → c1 = 0) ∧ n1 ≤ c1 ∧ (n1 = 0 ∨ ∃ el sp, d1 = .slice el sp ∧ n1 ≤ el.length + sp.length) := by
    obtain ⟨fuel, hf⟩ := h1
    rcases open_ints Try.underlying22 Try.underlying49 (by kernel_rfl) hf with ⟨hcs, hd⟩ | ⟨x, l, c, zs, hcs, _, hl, hm, hz, hd, hcell, hwz⟩
    · simp [Value.cells] at hcs
      obtain ⟨rfl, rfl, rfl⟩ := hcs
      exact ⟨[], Reads.nil _ _, fun _ => rfl, Nat.le_refl _, .inl rfl⟩
    · simp [Value.cells] at hcs
      obtain ⟨rfl, rfl, rfl⟩ := hcs
      exact ⟨_, Reads.of_open hl hm (by simpa using hz) hcell hwz, (fun h => by cases h), hl, .inr ⟨_, _, congrArg Prod.fst hd, open_length (by simpa using hz) hl⟩⟩
  obtain ⟨a2, rfl, rfl, rfl, w2⟩ := Go.ChangeMaps.open_string Try.underlying9 (hval 2 9 v2 rfl rfl) h2
  clear hA0 hval0
  refine (walk a0 a1 n1 c1 z1 a2 W w0 w1 e1 l1 w2).mono fun e W' ⟨he, bel⟩ => ?_
  subst he
  exact ⟨_, rfl, _, _, _, [], _, [], hW', trodAll_mk1 (shut_bool Try.underlying4 _), (trodAll_cons_mk (shut_int Try.underlying3 w0) (trodAll_cons_mk (Below.trod laidOut (by kernel_rfl) (of_decide_eq_true (by kernel_rfl)) k1 bel lt1) (trodAll_cons_mk (Go.ChangeMaps.shut_string Try.underlying9 w2) trodAll_mk0))), rfl, bel.frame _, fun h => by cases h⟩

set_option maxRecDepth 100000 in
theorem lifted (os : Os) (started : os.Started) (H : Type) (enc : TypeId × Value → H) :
    ReturnsInHanded {} Try.checked os 3 .any (Rows.bytesWritesSpec.pre6 enc Try.prog Try.f3 Rows.bytesWritesRow.domain false) (Rows.bytesWritesSpec.post enc Try.prog Try.f3 false true false false) := by
  refine returnsInHanded_of_change (C := Try.checked) own started (by kernel_rfl) Try.func3
    (ChangeSpec.witness6 (enc := enc) (C := Try.checked) false ⟨#[], #[.int .i64 0, .slice none 0 0, .string ⟨#[]⟩], []⟩ 8 (by kernel_rfl) (by kernel_rfl) (by kernel_rfl) (by kernel_rfl)) ?_
  intro W base args ds gs before hval hW _ _
  exact contract H enc W base args ds gs before hval hW

theorem over : Rows.bytesWritesRow.holds Try.pinned (OpenSpec.ofChange Rows.bytesWritesSpec) :=
  OpenClaim.holds_of_wide 3 Try.f3 rfl rfl rfl rfl rfl rfl rfl ⟨rfl, rfl, rfl, rfl, rfl⟩ rfl rfl rfl rfl rfl (by kernel_rfl) Try.func3 (by kernel_rfl)
    (of_decide_eq_true (by kernel_rfl)) (by unfold Func.isWrapper; first | (rw [if_pos (by decide +kernel)]; kernel_rfl) | (rw [if_neg (by decide +kernel)]; exact ⟨rfl, rfl⟩))
    (fun os started H enc _ => lifted os started H enc)

theorem proved : Rows.BytesWritesSaid :=
  over
#print axioms proved
end Go.Proofs.Ytipjjciafcpgfaa.bytesWrites

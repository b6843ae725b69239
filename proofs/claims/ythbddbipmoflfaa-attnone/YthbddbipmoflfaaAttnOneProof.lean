/- The examples come out as they should, and for every row that looks, every one key and every one value of its length, and every count of heads that divides it, all heads answer the value, each number brought within 32 bits. -/
import Derived.Test.YthbddbipmoflfaaRows
import Derived.Test.YthbddbipmoflfaaView
import Derived.Test.YthbddbipmoflfaaOwn
import Derived.Test.YthbddbipmoflfaaSat
import Derived.Test.YthbddbipmoflfaaSatRef
import Derived.Test.YthbddbipmoflfaaAdds
import Derived.Test.YthbddbipmoflfaaSteps
import Derived.Test.YthbddbipmoflfaaWhere
import Derived.Test.YthbddbipmoflfaaWorks
import Derived.Test.YthbddbipmoflfaaSoft
import Derived.Test.YthbddbipmoflfaaMean
import Derived.Test.YthbddbipmoflfaaGrids
import Derived.Test.YthbddbipmoflfaaAtPlain
import Derived.Test.YthbddbipmoflfaaAtFits
import Derived.Test.YthbddbipmoflfaaAtFitsNo
import Derived.Test.YthbddbipmoflfaaAtHead
import Derived.Test.YthbddbipmoflfaaAtCut
import Derived.Test.YthbddbipmoflfaaAtAll
import Derived.Test.YthbddbipmoflfaaAtWorks
import Derived.Test.YthbddbipmoflfaaAtOneZ
import Derived.WalkKit
import Derived.ProofKit
import Derived.OpenShut
import Derived.ChangeOld
import Derived.Below
import Derived.WalkLawsBesides
import Derived.ChangeMaps5
import Derived.SizedLaws
namespace Go.Proofs.Ythbddbipmoflfaa.attnOne
open Go.ChangeShapes Go.WideShapes Go.ChangeAt Go.RowKit
set_option linter.unusedVariables false
set_option linter.unusedSimpArgs false

theorem own : ownKnob Try.prog.godebug = none := by kernel_rfl
theorem laidOut : laidOutB Try.prog = true := by kernel_rfl
theorem bytes2 : Try.prog.bytesOf 2 = 8 := by kernel_rfl

theorem one_grid {w : World} {a : Option Addr} {n c : Nat} {zs : List Int} (h : Reads .i64 w a n zs) (g : Nat) (hg : g = w.heap.size) : Grid (w.alloc (.cells #[.slice a n c] 22)) (some ⟨g, 0, none⟩) 1 (fun _ => a) (fun _ => c) (fun _ => zs) := by
  subst hg
  have bn := below_new (Below.refl w.heap.size w) (.cells #[.slice a n c] 22)
  refine ⟨by omega, fun _ => ⟨_, rfl⟩, fun x hx r hr => ?_, fun r hr => ?_⟩
  · obtain rfl := Option.some.inj hx
    obtain rfl : r = 0 := by omega
    rw [h.len]
    exact one_new w (.slice a n c) 22 0 _ rfl
  · rw [h.len]
    exact h.below bn


set_option maxHeartbeats 4000000 in
theorem walk (a0 : Option Addr) (n0 c0 : Nat) (z0 : List Int) (a1 : Option Addr) (n1 c1 : Nat) (z1 : List Int) (a2 : Option Addr) (n2 c2 : Nat) (z2 : List Int) (a3 : Int) (w : World) (w0 : Reads .i64 w a0 n0 z0) (e0 : a0 = none → c0 = 0) (l0 : n0 ≤ c0) (w1 : Reads .i64 w a1 n1 z1) (e1 : a1 = none → c1 = 0) (l1 : n1 ≤ c1) (w2 : Reads .i64 w a2 n2 z2) (e2 : a2 = none → c2 = 0) (l2 : n2 ≤ c2) (w3 : (Lit.int .i64 a3).wf = true) (b0 : n0 * 8 ≤ 140737488351232) (b1 : n1 * 8 ≤ 140737488351232) (b2 : n2 * 8 ≤ 140737488351232) :
    Calls Try.prog 5 #[.slice a0 n0 c0, .slice a1 n1 c1, .slice a2 n2 c2, .int .i64 a3] w fun e w' => e = .returned (.bool true) ∧ Below w.heap.size w w' := by
  have kw := works_call w
  have hm := w0.max
  have hm1 := w1.max
  have hm2 := w2.max
  by_cases c1' : n0 = 0
  case pos =>
    subst c1'
    go_enter Try.func5, Try.ntmps5
    go_wp2_with (go_at_call 17; refine kw.mono ?_; rintro e W1 ⟨rfl, hb⟩; clear kw)
    go_ret
    exact ⟨rfl, hb⟩
  have zn : ((n0 : Int) == 0) = false := by simp; omega
  by_cases c2' : n0 = n1
  case neg =>
    have z2 : ((n0 : Int) == (n1 : Int)) = false := by simp; omega
    go_enter Try.func5, Try.ntmps5
    go_wp2_with (go_at_call 17; refine kw.mono ?_; rintro e W1 ⟨rfl, hb⟩; clear kw)
    go_ret
    exact ⟨rfl, hb⟩
  subst c2'
  by_cases c3' : n0 = n2
  case neg =>
    have z2 : ((n0 : Int) == (n2 : Int)) = false := by simp; omega
    go_enter Try.func5, Try.ntmps5
    go_wp2_with (go_at_call 17; refine kw.mono ?_; rintro e W1 ⟨rfl, hb⟩; clear kw)
    go_ret
    exact ⟨rfl, hb⟩
  subst c3'
  by_cases c4' : a3 < 1
  case pos =>
    go_enter Try.func5, Try.ntmps5
    go_wp2_with (go_at_call 17; refine kw.mono ?_; rintro e W1 ⟨rfl, hb⟩; clear kw)
    go_ret
    exact ⟨rfl, hb⟩
  obtain ⟨H, rfl⟩ : ∃ H : Nat, a3 = H := ⟨a3.toNat, by omega⟩
  have hH : 0 < H := by omega
  have z : ((H : Int) == 0) = false := by simp; omega
  by_cases c5' : n0 % H = 0
  case neg =>
    obtain ⟨r, er⟩ : ∃ r, n0 % H = r := ⟨_, rfl⟩
    have er' : (n0 : Int) % (H : Int) = (r : Int) := by rw [← er]; simp
    rw [er] at c5'
    clear er
    have zr : ((r : Int) != 0) = true := by simp; omega
    go_enter Try.func5, Try.ntmps5
    go_wp2_with (go_at_call 17; refine kw.mono ?_; rintro e W1 ⟨rfl, hb⟩; clear kw)
    go_ret
    exact ⟨rfl, hb⟩
  have er' : (n0 : Int) % (H : Int) = 0 := by omega
  have hz : allL z0 (fun _ => z1) (fun _ => z2) (n0 / H) 1 H = z2.map clampZ := by
    have e : H * (n0 / H) = n0 := by rw [Nat.mul_comm]; exact Nat.div_mul_cancel (Nat.dvd_of_mod_eq_zero c5')
    rw [all_one _ _ _ _ _ (by rw [e, w2.len]; exact Nat.le_refl _), e, ← w2.len, List.take_length]
  obtain ⟨x, rfl⟩ := w0.some_ (by omega)
  have ka := fun W p q p' q' A C A' C' (h : Reads .i64 W (some x) n0 z0) (g : Grid W p 1 A C fun _ => z1) (hC : ∀ r, r < 1 → z1.length ≤ C r) (g' : Grid W p' 1 A' C' fun _ => z2) (hC' : ∀ r, r < 1 → z2.length ≤ C' r) => all_yes x n0 c0 H z0 p 1 q A C (fun _ => z1) p' q' A' C' (fun _ => z2) W h l0 g hC g' hC' hH (by omega) (by omega) c5' (fun r _ => ⟨w1.len, w2.len⟩) (by omega) (by omega)
  simp only [hz] at ka
  clear hz c5'
  have r0 := fun W (h : Below w.heap.size w W) => w0.below h
  have r1 := fun W (h : Below w.heap.size w W) => w1.below h
  have r2 := fun W (h : Below w.heap.size w W) => w2.below h
  have len1 := w1.len
  have len2 := w2.len
  clear w0 w1
  go_enter Try.func5, Try.ntmps5
  go_wp2_with (first
    | (go_at_call 17; refine kw.mono ?_; rintro e W1 ⟨rfl, hb⟩; clear kw)
    | (go_at_call 12; refine (ka _ _ _ _ _ _ _ _ _ (r0 _ (below_new (below_new hb _) _)) ((one_grid (r1 _ hb) _ (by simp)).below (below_new (Below.refl _ _) _)) (fun _ _ => by rw [len1]; exact l1) (one_grid (r2 _ (below_new hb _)) _ (by simp)) (fun _ _ => by rw [len2]; exact l2)).mono ?_; rintro e W2 ⟨⟨p2, q2, rfl, R2, -⟩, d2⟩; have hb2 := below_then (below_new (below_new hb _) _) d2; clear ka d2 hb))
  go_loopw [11] (fun i wr => ∃ k : Nat, k ≤ n0 ∧ i = .int .i64 k ∧ ∃ m, wr = W2.drewN m) (fun i _ => n0 - (intOf i).toNat)
  case atStart => exact ⟨0, Nat.zero_le _, rfl, 0, rfl⟩
  case round =>
    obtain ⟨k, hk, rfl, m, hw⟩ := hrel
    by_cases hlt : k < n0
    · obtain ⟨y, rfl⟩ := R2.some_ (by omega)
      obtain ⟨v, rfl⟩ := w2.some_ (by omega)
      have cy : wr.cell? (y.add k) = some (.int .i64 ((z2.map clampZ).getD k 0)) := by rw [hw]; exact R2.cell y rfl k hlt
      have cv : wr.cell? (v.add k) = some (.int .i64 (z2.getD k 0)) := by rw [hw]; exact (r2 _ hb2).cell v rfl k hlt
      rw [map_getD _ _ _ (by rw [len2]; exact hlt)] at cy
      obtain ⟨X, eX⟩ : ∃ X, z2.getD k 0 = X := ⟨_, rfl⟩
      rw [eX] at cy cv
      have Hw : Hid (wr = W2.drewN m) := hw
      clear eX hw r0 r1 r2 R2 w2
      go_wp2
      go_quiet (first | (go_at_call 18; refine Calls.quiet_of_same (refClamp_call _ _)))
      go_wp2
      go_roundw
      case rel => exact ⟨k + 1, by omega, by go_num, _, by rw [Hw.out, World.drewN_drewN]⟩
      case measure => simp [intOf]; omega
    · have e : k = n0 := by omega
      subst e
      subst hw
      have bw := below_drew hb2 ⟨m, rfl⟩
      go_wp2
      go_ret
      exact ⟨rfl, bw⟩

theorem contract (H : Type) (enc : TypeId × Value → H) (W : World) (base : Nat) (args : Array Value) (ds gs : List (DataW H)) (before : List MemPlace)
    (hval0 : ∀ (j : Nat) t v, Try.f5.params[j]? = some t → args[j]? = some v → Value.okWide Try.prog W .any base t v)
    (hW : DataW.Whole enc Try.prog Try.f5.params.toList Rows.attnOneSpec.vars false W args.toList ds gs before)
    (hsz0 : (DataW.weightsEach Try.prog (Try.f5.params.toList ++ Rows.attnOneSpec.plain.varTypes Try.prog) (ds ++ gs)).all (· ≤ reachBytes) = true) :
    Calls Try.prog 5 args W fun e W' => ∃ v, e = .returned v ∧ Rows.attnOneSpec.post enc Try.prog Try.f5 false true false false W args v W' := by
  have hval : ∀ (j : Nat) t v, Try.f5.params[j]? = some t → args[j]? = some v → Value.okWide Try.prog W .any base t v := hval0
  have hW' := hW
  obtain ⟨p, q, hA0, hV, rfl, hfz, hnd⟩ := hW
  have hA : DataW.TrodAll enc Try.prog W 0 (fun _ => true) true Try.f5.params.toList args.toList ds p := hA0
  have hsz : (DataW.weightsEach Try.prog (Try.f5.params.toList ++ Rows.attnOneSpec.plain.varTypes Try.prog) (ds ++ gs)).all (· ≤ reachBytes) = true := hsz0
  rw [Try.params5] at hA hval hsz
  obtain ⟨v0, vs0, d0, ds0, p0, q0, hargs, rfl, rfl, h0, r0⟩ := trodAll_cons hA
  obtain ⟨v1, vs1, d1, ds1, p1, q1, rfl, rfl, rfl, h1, r1⟩ := trodAll_cons r0
  obtain ⟨v2, vs2, d2, ds2, p2, q2, rfl, rfl, rfl, h2, r2⟩ := trodAll_cons r1
  obtain ⟨v3, vs3, d3, ds3, p3, q3, rfl, rfl, rfl, h3, r3⟩ := trodAll_cons r2
  obtain ⟨rfl, rfl, rfl⟩ := trodAll_nil r3
  obtain rfl : args = #[v0, v1, v2, v3] := by cases args; simp_all
  obtain ⟨rfl, rfl⟩ := trodVars_none hV
  obtain ⟨a0, n0, c0, rfl⟩ := okWide_slice Try.underlying22 (hval 0 22 v0 rfl rfl)
  have k0 := h0
  have lt0 : ∀ x ∈ p0, x.block < W.heap.size := by obtain ⟨m, hm⟩ := k0; exact DataW.trod_lt m _ _ _ hm
  obtain ⟨z0, w0, e0, l0, s0⟩ : ∃ zs, Reads .i64 W a0 n0 zs ∧ (a0 = none → c0 = 0) ∧ n0 ≤ c0 ∧ (n0 = 0 ∨ ∃ el sp, d0 = .slice el sp ∧ n0 ≤ el.length + sp.length) := by
    obtain ⟨fuel, hf⟩ := h0
    rcases open_ints Try.underlying22 Try.underlying2 (by kernel_rfl) hf with ⟨hcs, hd⟩ | ⟨x, l, c, zs, hcs, _, hl, hm, hz, hd, hcell, hwz⟩
    · simp [Value.cells] at hcs
      obtain ⟨rfl, rfl, rfl⟩ := hcs
      exact ⟨[], Reads.nil _ _, fun _ => rfl, Nat.le_refl _, .inl rfl⟩
    · simp [Value.cells] at hcs
      obtain ⟨rfl, rfl, rfl⟩ := hcs
      exact ⟨_, Reads.of_open hl hm (by simpa using hz) hcell hwz, (fun h => by cases h), hl, .inr ⟨_, _, congrArg Prod.fst hd, open_length (by simpa using hz) hl⟩⟩
  obtain ⟨a1, n1, c1, rfl⟩ := okWide_slice Try.underlying22 (hval 1 22 v1 rfl rfl)
  have k1 := h1
  have lt1 : ∀ x ∈ p1, x.block < W.heap.size := by obtain ⟨m, hm⟩ := k1; exact DataW.trod_lt m _ _ _ hm
  obtain ⟨z1, w1, e1, l1, s1⟩ : ∃ zs, Reads .i64 W a1 n1 zs ∧ (a1 = none → c1 = 0) ∧ n1 ≤ c1 ∧ (n1 = 0 ∨ ∃ el sp, d1 = .slice el sp ∧ n1 ≤ el.length + sp.length) := by
    obtain ⟨fuel, hf⟩ := h1
    rcases open_ints Try.underlying22 Try.underlying2 (by kernel_rfl) hf with ⟨hcs, hd⟩ | ⟨x, l, c, zs, hcs, _, hl, hm, hz, hd, hcell, hwz⟩
    · simp [Value.cells] at hcs
      obtain ⟨rfl, rfl, rfl⟩ := hcs
      exact ⟨[], Reads.nil _ _, fun _ => rfl, Nat.le_refl _, .inl rfl⟩
    · simp [Value.cells] at hcs
      obtain ⟨rfl, rfl, rfl⟩ := hcs
      exact ⟨_, Reads.of_open hl hm (by simpa using hz) hcell hwz, (fun h => by cases h), hl, .inr ⟨_, _, congrArg Prod.fst hd, open_length (by simpa using hz) hl⟩⟩
  obtain ⟨a2, n2, c2, rfl⟩ := okWide_slice Try.underlying22 (hval 2 22 v2 rfl rfl)
  have k2 := h2
  have lt2 : ∀ x ∈ p2, x.block < W.heap.size := by obtain ⟨m, hm⟩ := k2; exact DataW.trod_lt m _ _ _ hm
  obtain ⟨z2, w2, e2, l2, s2⟩ : ∃ zs, Reads .i64 W a2 n2 zs ∧ (a2 = none → c2 = 0) ∧ n2 ≤ c2 ∧ (n2 = 0 ∨ ∃ el sp, d2 = .slice el sp ∧ n2 ≤ el.length + sp.length) := by
    obtain ⟨fuel, hf⟩ := h2
    rcases open_ints Try.underlying22 Try.underlying2 (by kernel_rfl) hf with ⟨hcs, hd⟩ | ⟨x, l, c, zs, hcs, _, hl, hm, hz, hd, hcell, hwz⟩
    · simp [Value.cells] at hcs
      obtain ⟨rfl, rfl, rfl⟩ := hcs
      exact ⟨[], Reads.nil _ _, fun _ => rfl, Nat.le_refl _, .inl rfl⟩
    · simp [Value.cells] at hcs
      obtain ⟨rfl, rfl, rfl⟩ := hcs
      exact ⟨_, Reads.of_open hl hm (by simpa using hz) hcell hwz, (fun h => by cases h), hl, .inr ⟨_, _, congrArg Prod.fst hd, open_length (by simpa using hz) hl⟩⟩
  obtain ⟨a3, rfl, rfl, rfl, w3⟩ := open_int Try.underlying3 (hval 3 3 v3 rfl rfl) h3
  have b0 : n0 * 8 ≤ 140737488351232 := by
    rcases s0 with rfl | ⟨el, sp, rfl, hle⟩
    · decide
    · have := sized_slice hsz (j := 0) (t := 22) (e := 2) rfl rfl Try.underlying22
      rw [bytes2] at this
      simp only [reachBytes] at this
      omega
  have b1 : n1 * 8 ≤ 140737488351232 := by
    rcases s1 with rfl | ⟨el, sp, rfl, hle⟩
    · decide
    · have := sized_slice hsz (j := 1) (t := 22) (e := 2) rfl rfl Try.underlying22
      rw [bytes2] at this
      simp only [reachBytes] at this
      omega
  have b2 : n2 * 8 ≤ 140737488351232 := by
    rcases s2 with rfl | ⟨el, sp, rfl, hle⟩
    · decide
    · have := sized_slice hsz (j := 2) (t := 22) (e := 2) rfl rfl Try.underlying22
      rw [bytes2] at this
      simp only [reachBytes] at this
      omega
  clear hA0 hval0
  refine (walk a0 n0 c0 z0 a1 n1 c1 z1 a2 n2 c2 z2 a3 W w0 e0 l0 w1 e1 l1 w2 e2 l2 w3 b0 b1 b2).mono fun e W' ⟨he, bel⟩ => ?_
  subst he
  exact ⟨_, rfl, _, _, _, [], _, [], hW', trodAll_mk1 (shut_bool Try.underlying4 _), (trodAll_cons_mk (Below.trod laidOut (by kernel_rfl) (of_decide_eq_true (by kernel_rfl)) k0 bel lt0) (trodAll_cons_mk (Below.trod laidOut (by kernel_rfl) (of_decide_eq_true (by kernel_rfl)) k1 bel lt1) (trodAll_cons_mk (Below.trod laidOut (by kernel_rfl) (of_decide_eq_true (by kernel_rfl)) k2 bel lt2) (trodAll_cons_mk (shut_int Try.underlying3 w3) trodAll_mk0)))), rfl, bel.frame _, fun h => by cases h⟩

set_option maxRecDepth 100000 in
theorem lifted (os : Os) (started : os.Started) (H : Type) (enc : TypeId × Value → H) :
    ReturnsInHanded {} Try.checked os 5 .any (Rows.attnOneSpec.pre6 enc Try.prog Try.f5 Rows.attnOneRow.domain false) (Rows.attnOneSpec.post enc Try.prog Try.f5 false true false false) := by
  refine returnsInHanded_of_change_sized (C := Try.checked) own started (by kernel_rfl) Try.func5
    (ChangeSpec.witness6 (enc := enc) (C := Try.checked) false ⟨#[], #[.slice none 0 0, .slice none 0 0, .slice none 0 0, .int .i64 0], []⟩ 8 (by kernel_rfl) (by kernel_rfl) (by kernel_rfl) (by kernel_rfl)) ?_
  intro W base args ds gs before hval hW _ hsz _
  exact contract H enc W base args ds gs before hval hW hsz

theorem over : Rows.attnOneRow.holds Try.pinned (OpenSpec.ofChange Rows.attnOneSpec) :=
  OpenClaim.holds_of_wide 5 Try.f5 rfl rfl rfl rfl rfl rfl rfl ⟨rfl, rfl, rfl, rfl, rfl⟩ rfl rfl rfl rfl rfl (by kernel_rfl) Try.func5 (by kernel_rfl)
    (of_decide_eq_true (by kernel_rfl)) (by unfold Func.isWrapper; first | (rw [if_pos (by decide +kernel)]; kernel_rfl) | (rw [if_neg (by decide +kernel)]; exact ⟨rfl, rfl⟩))
    (fun os started H enc _ => lifted os started H enc)

theorem proved : Rows.AttnOneSaid :=
  over
#print axioms proved
end Go.Proofs.Ythbddbipmoflfaa.attnOne

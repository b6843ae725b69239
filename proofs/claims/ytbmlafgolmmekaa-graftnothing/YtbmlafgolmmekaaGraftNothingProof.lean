/- For every list of weights, every rank and shift and every row of numbers: where the weights are a matrix of 1 to 4 rows of the row's width (of at most 5000 weights), what the program's Apply makes of the row with that matrix and one of noughts, in either order, is a row of noughts of the same length, without an error; and the examples of works() hold. -/
import Derived.Test.YtbmlafgolmmekaaRows
import Derived.Test.YtbmlafgolmmekaaView
import Derived.Test.YtbmlafgolmmekaaOwn
import Derived.Test.YtbmlafgolmmekaaCfg
import Derived.Test.YtbmlafgolmmekaaCfgs
import Derived.Test.YtbmlafgolmmekaaCfgRef
import Derived.Test.YtbmlafgolmmekaaHeld
import Derived.Test.YtbmlafgolmmekaaReader
import Derived.Test.YtbmlafgolmmekaaSls
import Derived.Test.YtbmlafgolmmekaaSteps
import Derived.Test.YtbmlafgolmmekaaInv
import Derived.Test.YtbmlafgolmmekaaTyped
import Derived.Test.YtbmlafgolmmekaaAds
import Derived.Test.YtbmlafgolmmekaaRanges
import Derived.Test.YtbmlafgolmmekaaSat
import Derived.Test.YtbmlafgolmmekaaSatRef
import Derived.Test.YtbmlafgolmmekaaAdds
import Derived.Test.YtbmlafgolmmekaaTexts
import Derived.Test.YtbmlafgolmmekaaSums
import Derived.Test.YtbmlafgolmmekaaSeals
import Derived.Test.YtbmlafgolmmekaaOpens
import Derived.Test.YtbmlafgolmmekaaWts
import Derived.Test.YtbmlafgolmmekaaTwos
import Derived.Test.YtbmlafgolmmekaaRdWts
import Derived.Test.YtbmlafgolmmekaaRefWts
import Derived.Test.YtbmlafgolmmekaaPrefix
import Derived.Test.YtbmlafgolmmekaaChange
import Derived.Test.YtbmlafgolmmekaaBack
import Derived.Test.YtbmlafgolmmekaaCheck
import Derived.Test.YtbmlafgolmmekaaPlan
import Derived.Test.YtbmlafgolmmekaaFlat
import Derived.Test.YtbmlafgolmmekaaShape
import Derived.Test.YtbmlafgolmmekaaPush
import Derived.Test.YtbmlafgolmmekaaNext
import Derived.Test.YtbmlafgolmmekaaRefShape
import Derived.Test.YtbmlafgolmmekaaShapes
import Derived.Test.YtbmlafgolmmekaaBody
import Derived.Test.YtbmlafgolmmekaaDecode
import Derived.Test.YtbmlafgolmmekaaRefFlat
import Derived.Test.YtbmlafgolmmekaaRefCheck
import Derived.Test.YtbmlafgolmmekaaRegs
import Derived.Test.YtbmlafgolmmekaaRegEnc
import Derived.Test.YtbmlafgolmmekaaEnc
import Derived.Test.YtbmlafgolmmekaaTrips
import Derived.Test.YtbmlafgolmmekaaDots
import Derived.Test.YtbmlafgolmmekaaDotsRef
import Derived.Test.YtbmlafgolmmekaaFits
import Derived.Test.YtbmlafgolmmekaaMats
import Derived.Test.YtbmlafgolmmekaaMatsRef
import Derived.Test.YtbmlafgolmmekaaApply
import Derived.Test.YtbmlafgolmmekaaWorks
import Derived.Test.YtbmlafgolmmekaaPair
import Derived.Test.YtbmlafgolmmekaaSame
import Derived.Test.YtbmlafgolmmekaaWorks10
import Derived.WalkKit
import Derived.ProofKit
import Derived.OpenShut
import Derived.ChangeOld
import Derived.Below
import Derived.WalkLawsBesides
import Derived.ChangeMaps5
import Derived.Lib.SmallJoins
import Derived.SizedLaws
namespace Go.Proofs.Ytbmlafgolmmekaa.graftNothing
open Go.ChangeShapes Go.WideShapes Go.ChangeAt Go.RowKit
set_option linter.unusedVariables false
set_option linter.unusedSimpArgs false

theorem own : ownKnob Try.prog.godebug = none := by kernel_rfl
theorem laidOut : laidOutB Try.prog = true := by kernel_rfl
theorem bytes2 : Try.prog.bytesOf 2 = 8 := by kernel_rfl
theorem bytes62 : Try.prog.bytesOf 62 = 1 := by kernel_rfl


theorem made_noughts (n j : Nat) (hj : j < n) : ((madeCells (Value.int .i8 0).cells (n * 1)).toList)[j]? = some (.int .i8 0) := by
  rw [Array.getElem?_toList]
  simp [madeCells, Value.cells, hj, Nat.mod_one]
theorem getD_zeros (n i : Nat) : (List.replicate n (0 : Int)).getD i 0 = 0 := by
  by_cases h : i < n
  · simp [List.getD, h]
  · simp [List.getD, h]
theorem prod_left {a b : List Int} (h : ∀ i, a.getD i 0 = 0) (k : Nat) : prodZ a b k = 0 := by
  induction k with
  | zero => rfl
  | succ k ih =>
    show addZ (prodZ a b k) (clampZ (a.getD k 0) * clampZ (b.getD k 0)) = 0
    rw [ih, h k, show clampZ 0 = 0 by decide, Int.zero_mul]
    decide
theorem prod_right {a b : List Int} (h : ∀ i, b.getD i 0 = 0) (k : Nat) : prodZ a b k = 0 := by
  induction k with
  | zero => rfl
  | succ k ih =>
    show addZ (prodZ a b k) (clampZ (a.getD k 0) * clampZ (b.getD k 0)) = 0
    rw [ih, h k, show clampZ 0 = 0 by decide, Int.mul_zero]
    decide
theorem shift_zero (n : Int) : shiftZ 0 n = 0 := by
  unfold shiftZ
  split
  · rfl
  · rw [if_neg (by omega)]
    unfold shN
    simp
theorem dot_left {a b : List Int} (h : ∀ i, a.getD i 0 = 0) (n : Int) : dotZ a b n = 0 := by
  unfold dotZ
  rw [prod_left h, shift_zero]
  decide
theorem dot_right {a b : List Int} (h : ∀ i, b.getD i 0 = 0) (n : Int) : dotZ a b n = 0 := by
  unfold dotZ
  rw [prod_right h, shift_zero]
  decide
theorem getD_part {l : List Int} (h : ∀ i, l.getD i 0 = 0) (p n : Nat) : ∀ i, ((l.drop p).take n).getD i 0 = 0 := fun i => by
  by_cases hi : i < n
  · have := h (p + i)
    simpa [List.getD, hi, List.getElem?_take, List.getElem?_drop] using this
  · simp [List.getD, List.getElem?_take, hi]
theorem row_left {zs xs : List Int} (h : ∀ i, zs.getD i 0 = 0) (d i : Nat) : rowZ zs d xs i = 0 := dot_left (getD_part h _ _) 6
theorem row_right {zs xs : List Int} (h : ∀ i, xs.getD i 0 = 0) (d i : Nat) : rowZ zs d xs i = 0 := dot_right h 6

/-- a matrix of nought makes nought of any row -/
theorem nought {za zb xs : List Int} {r shift : Int} (hz : (∀ i, za.getD i 0 = 0) ∨ (∀ i, zb.getD i 0 = 0)) (hd : 0 < xs.length) (hr : 1 ≤ r) (ha : (za.length : Int) = r * xs.length) (hb : (zb.length : Int) = r * xs.length) :
    applE za zb r xs = 0 ∧ applR za zb r shift xs = List.replicate xs.length 0 := by
  obtain ⟨k, rfl⟩ : ∃ k : Nat, r = (k : Int) := ⟨r.toNat, by omega⟩
  have ea : za.length = k * xs.length := by exact_mod_cast ha
  have eb : zb.length = k * xs.length := by exact_mod_cast hb
  have q : za.length / xs.length = k := by rw [ea, Nat.mul_div_cancel _ hd]
  have ok : applOK za zb (k : Int) xs := by
    refine ⟨⟨hd, by rw [ea]; exact Nat.mul_mod_left _ _, by rw [q]⟩, ?_⟩
    rw [q]
    exact ⟨by omega, by rw [eb]; exact Nat.mul_mod_right _ _, by rw [eb, Nat.mul_div_cancel_left _ (by omega)]⟩
  refine ⟨if_pos ok, ?_⟩
  unfold applR
  rw [if_pos ok]
  refine List.eq_replicate_iff.2 ⟨by simp, fun z hz' => ?_⟩
  obtain ⟨i, _, rfl⟩ := List.mem_map.1 hz'
  unfold applN
  rcases hz with h | h
  · rw [row_right (fun i => ?_), shift_zero]
    unfold lowL
    by_cases hi : i < za.length / xs.length
    · simp [List.getD, hi, row_left h]
    · simp [List.getD, hi]
  · rw [row_left h, shift_zero]


set_option maxHeartbeats 4000000 in
set_option maxRecDepth 20000 in
theorem walk (a0 : Option Addr) (n0 c0 : Nat) (z0 : List Int) (a1 : Int) (a2 : Int) (a3 : Option Addr) (n3 c3 : Nat) (z3 : List Int) (a4 : Bool) (w : World) (w0 : Reads .i8 w a0 n0 z0) (e0 : a0 = none → c0 = 0) (l0 : n0 ≤ c0) (w1 : (Lit.int .i64 a1).wf = true) (w2 : (Lit.int .i64 a2).wf = true) (w3 : Reads .i64 w a3 n3 z3) (e3 : a3 = none → c3 = 0) (l3 : n3 ≤ c3)  (b0 : n0 * 1 ≤ 140737488351232) (b3 : n3 * 8 ≤ 140737488351232) :
    Calls Try.prog 8 #[.slice a0 n0 c0, .int .i64 a1, .int .i64 a2, .slice a3 n3 c3, .bool a4] w fun e w' => e = .returned (.bool true) ∧ Below w.heap.size w w' := by
  have kw := works_call w
  obtain ⟨q, eq⟩ : ∃ q, (IntKind.u64.wrap a1).tmod 4 = q := ⟨_, rfl⟩
  have uw : 0 ≤ IntKind.u64.wrap a1 ∧ IntKind.u64.wrap a1 ≤ 18446744073709551615 := by simp only [IntKind.wrap, IntKind.bits, IntKind.signed]; simp; omega
  have eq' : IntKind.u64.wrap a1 % 4 = q := by rw [← eq, Int.tmod_eq_emod_of_nonneg uw.1]
  have q0 : 0 ≤ q := by omega
  have q1 : q ≤ 3 := by omega
  have hm0 := w0.max
  have hm3 := w3.max
  have hl0 := w0.len
  have hl3 := w3.len
  by_cases hd : n3 = 0
  · subst hd
    clear uw
    go_enter Try.func8, Try.ntmps8
    go_wp2_with (first | (go_at_call 25; refine kw.mono ?_; rintro e W1 ⟨rfl, h1⟩; clear kw))
    go_ret
    exact ⟨rfl, h1⟩
  have hd1 : ((n3 : Int) == 0) = false := by simp; omega
  obtain ⟨M, eM⟩ : ∃ M, (1 + q) * (n3 : Int) = M := ⟨_, rfl⟩
  have M0 : 0 ≤ M := by rw [← eM]; exact Int.mul_nonneg (by omega) (by omega)
  have M1 : M ≤ 4 * 1125899906842624 := by rw [← eM]; exact Int.mul_le_mul (by omega) (by omega) (by omega) (by omega)
  by_cases hn : (n0 : Int) = M
  · by_cases h5 : n0 ≤ 5000
    · have g1 : ((n0 : Int) == M) = true := by simp [hn]
      have g2 : ((n0 : Int) != M) = false := by simp [hn]
      have h5' : ¬ (5000 : Int) < (n0 : Int) := by omega
      have h5d : decide ((5000 : Int) < (n0 : Int)) = false := decide_eq_false h5'
      obtain ⟨i0, hi, hz0, hz1, hz2⟩ := i62'
      have zs0 : ∀ (W W1 : World), W1.ownsRow W.heap.size 62 1 (.slice (some ⟨W.heap.size, 0, none⟩) n0 n0) n0 (madeCells (Value.int .i8 0).cells (n0 * 1)).toList → Reads .i8 W1 (some ⟨W.heap.size, 0, none⟩) n0 (List.replicate n0 0) := fun W W1 ho =>
        own_reads_at ho (by simp) (fun z hz => by rw [(List.mem_replicate.1 hz).2]; decide) (fun j hj => by rw [getD_zeros]; exact made_noughts n0 j hj)
      have nz := fun (za zb : List Int) (hz : (∀ i, za.getD i 0 = 0) ∨ (∀ i, zb.getD i 0 = 0)) (ha : za.length = n0) (hb : zb.length = n0) => nought (shift := a2) hz (show 0 < z3.length by omega) (show 1 ≤ 1 + q by omega) (by rw [ha, hl3, hn, eM]) (by rw [hb, hl3, hn, eM])
      have ka : ∀ W p pc zp p' pc' zp' , Below w.heap.size w W → Reads .i8 W p n0 zp → n0 ≤ pc → Reads .i8 W p' n0 zp' → n0 ≤ pc' → ((∀ i, zp.getD i 0 = 0) ∨ (∀ i, zp'.getD i 0 = 0)) → Calls Try.prog 22 #[.slice p n0 pc, .slice p' n0 pc', .int .i64 (1 + q), .int .i64 a2, .slice a3 n3 c3] W fun e w' => ∃ a c, e = .returned (.tuple #[.slice a n3 c, .int .i64 0]) ∧ Reads .i64 w' a n3 (List.replicate n3 0) ∧ Below W.heap.size W w' := fun W p pc zp p' pc' zp' hW h0 h1 h2 h3 hz => by
        have e := nz zp zp' hz h0.len h2.len
        have := apply_call p n0 pc zp p' n0 pc' zp' (1 + q) a2 a3 n3 c3 z3 W h0 h1 h2 h3 (w3.below hW) (wf_i64 (by omega) (by omega)) w2 (by omega) (by omega)
        rw [e.1, e.2, hl3] at this
        refine this.mono ?_
        rintro e w' ⟨a, m, c, he, hr, hb⟩
        have : m = n3 := by have := hr.len; simp at this; omega
        subst this
        exact ⟨a, c, he, hr, hb⟩
      have KA := hidden_ ka
      have ZS := hidden_ zs0
      have HW := hidden_ w0
      have eN : Hid ((n0 : Int) = M) := hn
      clear ka zs0 nz uw hn hl0 hl3 h5 hm0 w0
      cases a4 with
      | true =>
        go_enter Try.func8, Try.ntmps8
        go_wp2_with (first
          | (go_at_call 25; refine kw.mono ?_; rintro e W1 ⟨rfl, hb⟩; clear kw)
          | (at_make; refine wpList_make_full _ rfl (.tmp 42) (.tmp 42) 33 rfl W1.heap.size 62 i0 (.int .i8 0) 1 Try.underlying33 hi hz0 hz1 .i64 .i64 _ _ n0 rfl rfl rfl rfl (by rw [hz2]; omega) (by unfold maxLen; omega) (Nat.le_refl _) ?_; intro W2 ho hg; have rz := ZS.out W1 W2 ho; replace hb := below_then hb ((Below.refl W1.heap.size W1).grown hg (Nat.le_refl _) (fun k h => by cases h)); clear ho hg)
          | (go_at_call 22; refine (KA.out _ _ _ _ _ _ _ hb rz (Nat.le_refl _) (HW.out.below hb) l0 (.inl (getD_zeros n0))).mono ?_; rintro e W3 ⟨ra, rc, rfl, rr, h1⟩; replace hb := below_then hb h1; clear h1 rz))
        have HB := hidden_ hb
        clear hb eq eq' eM g1 g2 h5' h5d hd1
        go_loopw [16] (fun i wr => ∃ k : Nat, k ≤ n3 ∧ i = .int .i64 k ∧ wr = W3) (fun i _ => n3 - (intOf i).toNat)
        case atStart => exact ⟨0, Nat.zero_le _, rfl, rfl⟩
        case round =>
          obtain ⟨k, hk, rfl, hw⟩ := hrel
          subst hw
          by_cases hlt : k < n3
          · obtain ⟨x, rfl⟩ := rr.some_ (by omega)
            have cx := rr.cell x rfl k hlt
            rw [getD_zeros] at cx
            have hlt' : (k : Int) < (n3 : Int) := by omega
            go_wp2
            go_roundw
            case rel => exact ⟨k + 1, by omega, by go_num, trivial⟩
            case measure => simp [intOf]; omega
          · have e : k = n3 := by omega
            subst e
            go_wp2
            go_ret
            exact ⟨rfl, HB.out⟩
      | false =>
        go_enter Try.func8, Try.ntmps8
        go_wp2_with (first
          | (go_at_call 25; refine kw.mono ?_; rintro e W1 ⟨rfl, hb⟩; clear kw)
          | (at_make; refine wpList_make_full _ rfl (.tmp 42) (.tmp 42) 33 rfl W1.heap.size 62 i0 (.int .i8 0) 1 Try.underlying33 hi hz0 hz1 .i64 .i64 _ _ n0 rfl rfl rfl rfl (by rw [hz2]; omega) (by unfold maxLen; omega) (Nat.le_refl _) ?_; intro W2 ho hg; have rz := ZS.out W1 W2 ho; replace hb := below_then hb ((Below.refl W1.heap.size W1).grown hg (Nat.le_refl _) (fun k h => by cases h)); clear ho hg)
          | (go_at_call 22; refine (KA.out _ _ _ _ _ _ _ hb (HW.out.below hb) l0 rz (Nat.le_refl _) (.inr (getD_zeros n0))).mono ?_; rintro e W3 ⟨ra, rc, rfl, rr, h1⟩; replace hb := below_then hb h1; clear h1 rz))
        have HB := hidden_ hb
        clear hb eq eq' eM g1 g2 h5' h5d hd1
        go_loopw [16] (fun i wr => ∃ k : Nat, k ≤ n3 ∧ i = .int .i64 k ∧ wr = W3) (fun i _ => n3 - (intOf i).toNat)
        case atStart => exact ⟨0, Nat.zero_le _, rfl, rfl⟩
        case round =>
          obtain ⟨k, hk, rfl, hw⟩ := hrel
          subst hw
          by_cases hlt : k < n3
          · obtain ⟨x, rfl⟩ := rr.some_ (by omega)
            have cx := rr.cell x rfl k hlt
            rw [getD_zeros] at cx
            have hlt' : (k : Int) < (n3 : Int) := by omega
            go_wp2
            go_roundw
            case rel => exact ⟨k + 1, by omega, by go_num, trivial⟩
            case measure => simp [intOf]; omega
          · have e : k = n3 := by omega
            subst e
            go_wp2
            go_ret
            exact ⟨rfl, HB.out⟩
    · have h5' : (5000 : Int) < (n0 : Int) := by omega
      have g1 : ((n0 : Int) == M) = true := by simp [hn]
      have g2 : ((n0 : Int) != M) = false := by simp [hn]
      clear uw hn
      go_enter Try.func8, Try.ntmps8
      go_wp2_with (first | (go_at_call 25; refine kw.mono ?_; rintro e W1 ⟨rfl, h1⟩; clear kw))
      go_ret
      exact ⟨rfl, h1⟩
  · have g1 : ((n0 : Int) == M) = false := by simp [hn]
    have g2 : ((n0 : Int) != M) = true := by simp [hn]
    clear uw hn
    go_enter Try.func8, Try.ntmps8
    go_wp2_with (first | (go_at_call 25; refine kw.mono ?_; rintro e W1 ⟨rfl, h1⟩; clear kw))
    go_ret
    exact ⟨rfl, h1⟩

theorem contract (H : Type) (enc : TypeId × Value → H) (W : World) (base : Nat) (args : Array Value) (ds gs : List (DataW H)) (before : List MemPlace)
    (hval0 : ∀ (j : Nat) t v, Try.f8.params[j]? = some t → args[j]? = some v → Value.okWide Try.prog W .any base t v)
    (hW : DataW.Whole enc Try.prog Try.f8.params.toList Rows.graftNothingSpec.vars false W args.toList ds gs before)
    (hsz0 : (DataW.weightsEach Try.prog (Try.f8.params.toList ++ Rows.graftNothingSpec.plain.varTypes Try.prog) (ds ++ gs)).all (· ≤ reachBytes) = true) :
    Calls Try.prog 8 args W fun e W' => ∃ v, e = .returned v ∧ Rows.graftNothingSpec.post enc Try.prog Try.f8 false true false false W args v W' := by
  have hval : ∀ (j : Nat) t v, Try.f8.params[j]? = some t → args[j]? = some v → Value.okWide Try.prog W .any base t v := hval0
  have hW' := hW
  obtain ⟨p, q, hA0, hV, rfl, hfz, hnd⟩ := hW
  have hA : DataW.TrodAll enc Try.prog W 0 (fun _ => true) true Try.f8.params.toList args.toList ds p := hA0
  have hsz : (DataW.weightsEach Try.prog (Try.f8.params.toList ++ Rows.graftNothingSpec.plain.varTypes Try.prog) (ds ++ gs)).all (· ≤ reachBytes) = true := hsz0
  rw [Try.params8] at hA hval hsz
  obtain ⟨v0, vs0, d0, ds0, p0, q0, hargs, rfl, rfl, h0, r0⟩ := trodAll_cons hA
  obtain ⟨v1, vs1, d1, ds1, p1, q1, rfl, rfl, rfl, h1, r1⟩ := trodAll_cons r0
  obtain ⟨v2, vs2, d2, ds2, p2, q2, rfl, rfl, rfl, h2, r2⟩ := trodAll_cons r1
  obtain ⟨v3, vs3, d3, ds3, p3, q3, rfl, rfl, rfl, h3, r3⟩ := trodAll_cons r2
  obtain ⟨v4, vs4, d4, ds4, p4, q4, rfl, rfl, rfl, h4, r4⟩ := trodAll_cons r3
  obtain ⟨rfl, rfl, rfl⟩ := trodAll_nil r4
  obtain rfl : args = #[v0, v1, v2, v3, v4] := by cases args; simp_all
  obtain ⟨rfl, rfl⟩ := trodVars_none hV
  obtain ⟨a0, n0, c0, rfl⟩ := okWide_slice Try.underlying33 (hval 0 33 v0 rfl rfl)
  have k0 := h0
  have lt0 : ∀ x ∈ p0, x.block < W.heap.size := by obtain ⟨m, hm⟩ := k0; exact DataW.trod_lt m _ _ _ hm
  obtain ⟨z0, w0, e0, l0, s0⟩ : ∃ zs, Reads .i8 W a0 n0 zs ∧ (a0 = none → c0 = 0) ∧ n0 ≤ c0 ∧ (n0 = 0 ∨ ∃ el sp, d0 = .slice el sp ∧ n0 ≤ el.length + sp.length) := by
    obtain ⟨fuel, hf⟩ := h0
    rcases open_ints Try.underlying33 Try.underlying62 (by kernel_rfl) hf with ⟨hcs, hd⟩ | ⟨x, l, c, zs, hcs, _, hl, hm, hz, hd, hcell, hwz⟩
    · simp [Value.cells] at hcs
      obtain ⟨rfl, rfl, rfl⟩ := hcs
      exact ⟨[], Reads.nil _ _, fun _ => rfl, Nat.le_refl _, .inl rfl⟩
    · simp [Value.cells] at hcs
      obtain ⟨rfl, rfl, rfl⟩ := hcs
      exact ⟨_, Reads.of_open hl hm (by simpa using hz) hcell hwz, (fun h => by cases h), hl, .inr ⟨_, _, congrArg Prod.fst hd, open_length (by simpa using hz) hl⟩⟩
  obtain ⟨a1, rfl, rfl, rfl, w1⟩ := open_int Try.underlying3 (hval 1 3 v1 rfl rfl) h1
  obtain ⟨a2, rfl, rfl, rfl, w2⟩ := open_int Try.underlying3 (hval 2 3 v2 rfl rfl) h2
  obtain ⟨a3, n3, c3, rfl⟩ := okWide_slice Try.underlying42 (hval 3 42 v3 rfl rfl)
  have k3 := h3
  have lt3 : ∀ x ∈ p3, x.block < W.heap.size := by obtain ⟨m, hm⟩ := k3; exact DataW.trod_lt m _ _ _ hm
  obtain ⟨z3, w3, e3, l3, s3⟩ : ∃ zs, Reads .i64 W a3 n3 zs ∧ (a3 = none → c3 = 0) ∧ n3 ≤ c3 ∧ (n3 = 0 ∨ ∃ el sp, d3 = .slice el sp ∧ n3 ≤ el.length + sp.length) := by
    obtain ⟨fuel, hf⟩ := h3
    rcases open_ints Try.underlying42 Try.underlying2 (by kernel_rfl) hf with ⟨hcs, hd⟩ | ⟨x, l, c, zs, hcs, _, hl, hm, hz, hd, hcell, hwz⟩
    · simp [Value.cells] at hcs
      obtain ⟨rfl, rfl, rfl⟩ := hcs
      exact ⟨[], Reads.nil _ _, fun _ => rfl, Nat.le_refl _, .inl rfl⟩
    · simp [Value.cells] at hcs
      obtain ⟨rfl, rfl, rfl⟩ := hcs
      exact ⟨_, Reads.of_open hl hm (by simpa using hz) hcell hwz, (fun h => by cases h), hl, .inr ⟨_, _, congrArg Prod.fst hd, open_length (by simpa using hz) hl⟩⟩
  obtain ⟨a4, rfl, rfl, rfl⟩ := open_bool Try.underlying4 (hval 4 4 v4 rfl rfl) h4
  have b0 : n0 * 1 ≤ 140737488351232 := by
    rcases s0 with rfl | ⟨el, sp, rfl, hle⟩
    · decide
    · have := sized_slice hsz (j := 0) (t := 33) (e := 62) rfl rfl Try.underlying33
      rw [bytes62] at this
      simp only [reachBytes] at this
      omega
  have b3 : n3 * 8 ≤ 140737488351232 := by
    rcases s3 with rfl | ⟨el, sp, rfl, hle⟩
    · decide
    · have := sized_slice hsz (j := 3) (t := 42) (e := 2) rfl rfl Try.underlying42
      rw [bytes2] at this
      simp only [reachBytes] at this
      omega
  clear hA0 hval0
  refine (walk a0 n0 c0 z0 a1 a2 a3 n3 c3 z3 a4 W w0 e0 l0 w1 w2 w3 e3 l3  b0 b3).mono fun e W' ⟨he, bel⟩ => ?_
  subst he
  exact ⟨_, rfl, _, _, _, [], _, [], hW', trodAll_mk1 (shut_bool Try.underlying4 _), (trodAll_cons_mk (Below.trod laidOut (by kernel_rfl) (of_decide_eq_true (by kernel_rfl)) k0 bel lt0) (trodAll_cons_mk (shut_int Try.underlying3 w1) (trodAll_cons_mk (shut_int Try.underlying3 w2) (trodAll_cons_mk (Below.trod laidOut (by kernel_rfl) (of_decide_eq_true (by kernel_rfl)) k3 bel lt3) (trodAll_cons_mk (shut_bool Try.underlying4 _) trodAll_mk0))))), rfl, bel.frame _, fun h => by cases h⟩

set_option maxRecDepth 100000 in
theorem lifted (os : Os) (started : os.Started) (H : Type) (enc : TypeId × Value → H) :
    ReturnsInHanded {} Try.checked os 8 .any (Rows.graftNothingSpec.pre6 enc Try.prog Try.f8 Rows.graftNothingRow.domain false) (Rows.graftNothingSpec.post enc Try.prog Try.f8 false true false false) := by
  refine returnsInHanded_of_change_sized (C := Try.checked) own started (by kernel_rfl) Try.func8
    (ChangeSpec.witness6 (enc := enc) (C := Try.checked) false ⟨#[], #[.slice none 0 0, .int .i64 0, .int .i64 0, .slice none 0 0, .bool false], []⟩ 8 (by kernel_rfl) (by kernel_rfl) (by kernel_rfl) (by kernel_rfl)) ?_
  intro W base args ds gs before hval hW _ hsz _
  exact contract H enc W base args ds gs before hval hW hsz

theorem over : Rows.graftNothingRow.holds Try.pinned (OpenSpec.ofChange Rows.graftNothingSpec) :=
  OpenClaim.holds_of_wide 8 Try.f8 rfl rfl rfl rfl rfl rfl rfl ⟨rfl, rfl, rfl, rfl, rfl⟩ rfl rfl rfl rfl rfl (by kernel_rfl) Try.func8 (by kernel_rfl)
    (of_decide_eq_true (by kernel_rfl)) (by unfold Func.isWrapper; first | (rw [if_pos (by decide +kernel)]; kernel_rfl) | (rw [if_neg (by decide +kernel)]; exact ⟨rfl, rfl⟩))
    (fun os started H enc _ => lifted os started H enc)

theorem proved : Rows.GraftNothingSaid :=
  over
#print axioms proved
end Go.Proofs.Ytbmlafgolmmekaa.graftNothing

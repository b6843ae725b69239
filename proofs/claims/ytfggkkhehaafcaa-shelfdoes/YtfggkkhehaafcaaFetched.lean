/- Fetch of the program and of the document, whatever comes: their contracts. -/
import Derived.Test.YtfggkkhehaafcaaRows
import Derived.Test.YtfggkkhehaafcaaPages
import Derived.Test.YtfggkkhehaafcaaView
import Derived.Test.YtfggkkhehaafcaaOwn
import Derived.Test.YtfggkkhehaafcaaReadsP
import Derived.Test.YtfggkkhehaafcaaReadsQ
import Derived.Test.YtfggkkhehaafcaaLeast
import Derived.Test.YtfggkkhehaafcaaLays
import Derived.Test.YtfggkkhehaafcaaTurns
import Derived.Test.YtfggkkhehaafcaaGoods
import Derived.Test.YtfggkkhehaafcaaRefPg
import Derived.Test.YtfggkkhehaafcaaRefRd
import Derived.Test.YtfggkkhehaafcaaPlain
import Derived.Test.YtfggkkhehaafcaaNeeds
import Derived.Test.YtfggkkhehaafcaaPlace
import Derived.Test.YtfggkkhehaafcaaFetch
import Derived.Test.YtfggkkhehaafcaaFetches
import Derived.WalkKit
import Derived.ProofKit
import Derived.OpenShut
import Derived.Below
import Derived.WalkLawsBesides
import Derived.Deep.QuietTactic
import Derived.BigQuiet
import Derived.RangeFuncNested
import Derived.RangeFuncBox
import Derived.RangeFuncBound
import Derived.RangeFuncCalls
import Derived.RangeFuncLeaves
import Derived.Shelf.Abstract
import Derived.Shelf.RegionOpen
import Derived.OwnWalkIn
import Derived.TacticsInMore
import Derived.LoopNIn
import Derived.LoopIn
import Derived.OwnWalk
namespace Go.Proofs.Ytfggkkhehaafcaa
open Go.ChangeShapes Go.WideShapes Go.ChangeAt Go.RowKit
set_option linter.unusedVariables false

theorem fetch_no {B m : Nat} {w : World} {b g : Nat} {s : Pl} (h : PoolAt B w b g s) (a : Option Addr) (L c : Nat) (hL : L ≤ 4096) (n : Int) (h0 : -9223372036854775808 ≤ n) (h1 : n ≤ 9223372036854775807) (hn : n < 0 ∨ (L : Int) < needZ n) :
    Calls Try.prog 43 #[.pointer (some ⟨b, 0, none⟩), .slice a L c, .int .i64 n] w fun e w' =>
      ∃ a' l' c', e = .returned (.tuple #[.slice a' l' c', .int .i64 20]) ∧ RowB w.heap.size w' a' l' c' [] ∧ PoolAt B w' b g s ∧ Below w.heap.size w w' := by
  have k8 := need_call n h1 h0
  obtain ⟨K, eK⟩ : ∃ K, needZ n = K := ⟨_, rfl⟩
  rw [eK] at k8 hn
  have HP := hidden_ h
  have s7 : ∀ u, (((w.alloc (.cells #[.pointer (some ⟨b, 0, none⟩)] 24)).alloc (.cells #[.slice none 0 0] 37)).alloc (.cells #[.int .i64 u] 25)).heap.size = w.heap.size + 3 := by intro u; simp
  clear h eK
  by_cases hneg : n < 0
  · clear hn
    go_enter Try.func43, Try.ntmps43
    go_wp2
    have hb : Below w.heap.size w (((w.alloc (.cells #[.pointer (some ⟨b, 0, none⟩)] 24)).alloc (.cells #[.slice none 0 0] 37)).alloc (.cells #[.int .i64 20] 25)) := below_new (below_new (below_new (Below.refl _ _) _) _) _
    refine bodyPost_ret (v := .tuple #[.slice none 0 0, .int .i64 20]) ?_ rfl ⟨none, 0, 0, rfl, RowB.nil _ _, HP.out.below hb, hb⟩
    simp [results, Try.results43, go_sem]
  · have hk : (L : Int) < K := by omega
    have hneg' : ¬ n < 0 := hneg
    clear hn
    go_enter Try.func43, Try.ntmps43
    go_wp2_with (first | (go_at_call 71; refine (k8 _).mono ?_; rintro e w' ⟨rfl, h1⟩; obtain rfl := h1.symm))
    have hb : Below w.heap.size w (((w.alloc (.cells #[.pointer (some ⟨b, 0, none⟩)] 24)).alloc (.cells #[.slice none 0 0] 37)).alloc (.cells #[.int .i64 20] 25)) := below_new (below_new (below_new (Below.refl _ _) _) _) _
    refine bodyPost_ret (v := .tuple #[.slice none 0 0, .int .i64 20]) ?_ rfl ⟨none, 0, 0, rfl, RowB.nil _ _, HP.out.below hb, hb⟩
    simp [results, Try.results43, go_sem]

theorem fetched_call {B m : Nat} {w : World} {b g : Nat} {s : Pl} (h : PoolAt B w b g s) (hG : Good m s) (a : Option Addr) (L c : Nat) (P : List Int) (hP : Reads .i64 w a L P) (hL : L ≤ 4096) (ha : ∀ y, a = some y → y.block < w.heap.size) (n : Int) (h0 : -9223372036854775808 ≤ n) (h1 : n ≤ 9223372036854775807) :
    Calls Try.prog 43 #[.pointer (some ⟨b, 0, none⟩), .slice a L c, .int .i64 n] w fun e w' =>
      ∃ a' l' c', e = .returned (.tuple #[.slice a' l' c', .int .i64 (fetchE s P n)]) ∧ RowB w.heap.size w' a' l' c' (fetchR s P n) ∧ PoolAt B w' b g s ∧ Below w.heap.size w w' := by
  by_cases hn : n < 0 ∨ (P.length : Int) < needZ n
  · have e1 : fetchE s P n = 20 := by unfold fetchE; rw [if_pos hn]
    have e2 : fetchR s P n = [] := by unfold fetchR; rw [if_neg (by rw [e1]; decide)]
    rw [e1, e2]
    exact fetch_no (m := m) h a L c hL n h0 h1 (by rw [hP.len] at hn; exact hn)
  · have e1 : fetchE s P n = fetE s (spots P n.toNat) := by unfold fetchE; rw [if_neg hn]
    unfold fetchR
    rw [e1]
    obtain ⟨N, rfl⟩ : ∃ N : Nat, n = (N : Int) := ⟨n.toNat, by omega⟩
    rw [Int.toNat_natCast]
    rw [needZ_nat, hP.len] at hn
    exact fetch_yes h hG a L c P hP hL ha N (by omega)

set_option maxRecDepth 20000 in
theorem refFetched_call {B m : Nat} {w : World} {b g : Nat} {s : Pl} {r : Nat → Nat} (h : RefAt B w b g s r) (hG : Good m s) (a : Option Addr) (L c : Nat) (P : List Int) (hP : Reads .i64 w a L P) (hL : L ≤ 4096) (n : Int) (h0 : -9223372036854775808 ≤ n) (h1 : n ≤ 9223372036854775807) :
    Calls Try.prog 45 #[.pointer (some ⟨b, 0, none⟩), .slice a L c, .int .i64 n] w fun e w' =>
      ∃ a' l' c', e = .returned (.tuple #[.slice a' l' c', .int .i64 (fetchE s P n)]) ∧ RowB w.heap.size w' a' l' c' (fetchR s P n) ∧ RefAt B w' b g s r ∧ Below w.heap.size w w' := by
  have k9 := refNeed_call n h1 h0
  have hlen := hP.len
  have HP := hidden_ h
  by_cases hn : n < 0 ∨ (P.length : Int) < needZ n
  · have e1 : fetchE s P n = 20 := by unfold fetchE; rw [if_pos hn]
    have e2 : fetchR s P n = [] := by unfold fetchR; rw [if_neg (by rw [e1]; decide)]
    rw [e1, e2]
    rw [hlen] at hn
    obtain ⟨K, eK⟩ : ∃ K, needZ n = K := ⟨_, rfl⟩
    rw [eK] at k9 hn
    clear h eK e1 e2 hG hP
    by_cases hneg : n < 0
    · clear hn
      go_enter Try.func45, Try.ntmps45
      go_wp2
      go_ret2
      exact ⟨none, 0, 0, rfl, RowB.nil _ _, HP.out, Below.refl _ _⟩
    · have hk : (L : Int) < K := by omega
      clear hn
      go_enter Try.func45, Try.ntmps45
      go_wp2_with (first | (go_at_call 63; refine (k9 _).mono ?_; rintro e w' ⟨rfl, h1⟩; obtain rfl := h1.symm))
      go_ret2
      exact ⟨none, 0, 0, rfl, RowB.nil _ _, HP.out, Below.refl _ _⟩
  · have e1 : fetchE s P n = fetE s (spots P n.toNat) := by unfold fetchE; rw [if_neg hn]
    unfold fetchR
    rw [e1]
    obtain ⟨N, rfl⟩ : ∃ N : Nat, n = (N : Int) := ⟨n.toNat, by omega⟩
    rw [Int.toNat_natCast]
    rw [needZ_nat] at hn k9
    rw [hlen] at hn
    have hN : (N + 31) / 32 ≤ L := by omega
    have hN' : ¬ ((L : Int) < (((N + 31) / 32 : Nat) : Int)) := by omega
    obtain ⟨K, eK⟩ : ∃ K : Int, (((N + 31) / 32 : Nat) : Int) = K := ⟨_, rfl⟩
    rw [eK] at k9 hN'
    obtain ⟨X0, eX0⟩ : ∃ X, (if fetE s (spots P N) = 0 then fetV s (spots P N) else []) = X := ⟨_, rfl⟩
    obtain ⟨E0, eE0⟩ : ∃ E, fetE s (spots P N) = E := ⟨_, rfl⟩
    have HX0 := hidden_ (And.intro eX0 eE0)
    rw [eX0, eE0]
    have n1 := hG.n1
    have HO := hidden_ hG.ow0
    obtain ⟨i0, hi, hz0, hz1, hz2⟩ := info_parts info59
    have hmax : N ≤ 131072 := by omega
    have HR := hidden_ hP
    clear h eK e1 hG hP eX0 eE0 hn
    go_enter Try.func45, Try.ntmps45
    go_wp2_with (first | (go_at_call 63; refine (k9 _).mono ?_; rintro e w' ⟨rfl, h1⟩; obtain rfl := h1.symm))
    go_loopw [8, 9] (fun v i wr => ∃ k : Nat, k ≤ N ∧ i = .int .i64 k ∧ fetE s (spots P k) = 0 ∧ wr.ownsRow w.heap.size 59 1 v k ((fetV s (spots P k)).map (Value.int .i8)) ∧ Below w.heap.size w wr) (fun _ i _ => N - (intOf i).toNat)
    case atStart => exact ⟨0, Nat.zero_le _, rfl, rfl, World.ownsRow_nil _ _ _ _, Below.refl _ _⟩
    case round =>
      obtain ⟨k, hk, rfl, hok, hrow, hb⟩ := hrel
      obtain ⟨a9, c9, rfl⟩ := own_form hrow
      by_cases hlt : k < N
      · obtain ⟨Q, eQ⟩ : ∃ Q : Nat, k / 32 = Q := ⟨_, rfl⟩
        obtain ⟨R, eR⟩ : ∃ R : Nat, k % 32 = R := ⟨_, rfl⟩
        have q1 : (k : Int).tdiv 32 = (Q : Int) := by rw [Int.tdiv_eq_ediv_of_nonneg (by omega)]; omega
        have q2 : (k : Int).tmod 32 = (R : Int) := by rw [Int.tmod_eq_emod_of_nonneg (by omega)]; omega
        have q3 : Q < L := by omega
        obtain ⟨x, rfl⟩ := HR.out.some_ (by omega)
        obtain ⟨Z, eZ⟩ : ∃ Z, P.getD Q 0 = Z := ⟨_, rfl⟩
        have cx : wr.cell? (x.add Q) = some (.int .i64 Z) := by rw [← eZ]; exact (HR.out.below hb).cell x rfl Q q3
        have hsp : spots P (k + 1) = spots P k ++ [(Z, (R : Int))] := by rw [spots_succ, ← eZ, ← eQ, ← eR]; rfl
        have kG := refGet_call (HP.out.below hb) n1 HO.out Z (R : Int)
        have hs1 := fetE_snoc s (spots P k) (Z, (R : Int)) hok
        have hs2 := fetV_snoc s (spots P k) (Z, (R : Int))
        rw [← hsp] at hs1 hs2
        have hws := hb.size
        by_cases g0 : getE s Z (R : Int) = 0
        · by_cases g1 : getV s Z (R : Int) < -128 ∨ 127 < getV s Z (R : Int)
          · have hx : stepE s (Z, (R : Int)) = 20 := by simp [stepE, g0, g1]
            rw [hx] at hs1
            have he := fetE_prefix P (k + 1) N (by omega) (by rw [hs1]; decide)
            rw [hs1] at he
            have HL := hidden_ (And.intro (HP.out.below hb) (And.intro hb he))
            rw [g0] at kG
            obtain ⟨V, eV⟩ : ∃ V, getV s Z (R : Int) = V := ⟨_, rfl⟩
            rw [eV] at kG g1
            clear eV hx hrow hs1 hs2 he hsp hok hb eZ eQ eR
            by_cases g2 : V < -128
            · clear g1
              go_wp2_with (first | (go_at_call 74; refine kG.mono ?_; rintro e w' ⟨rfl, h1⟩; obtain rfl := h1.symm))
              go_ret2
              exact ⟨none, 0, 0, (by rw [← HX0.out.2, HL.out.2.2]; rfl), by rw [← HX0.out.1, HL.out.2.2]; exact RowB.nil _ _, HL.out.1, HL.out.2.1⟩
            · have g3 : 127 < V := by omega
              clear g1
              go_wp2_with (first | (go_at_call 74; refine kG.mono ?_; rintro e w' ⟨rfl, h1⟩; obtain rfl := h1.symm))
              go_ret2
              exact ⟨none, 0, 0, (by rw [← HX0.out.2, HL.out.2.2]; rfl), by rw [← HX0.out.1, HL.out.2.2]; exact RowB.nil _ _, HL.out.1, HL.out.2.1⟩
          · have hx : stepE s (Z, (R : Int)) = 0 := by simp [stepE, g0, g1]
            rw [hx] at hs1
            rw [g0] at kG
            have g2 : ¬ getV s Z (R : Int) < -128 := fun q => g1 (.inl q)
            have g3 : ¬ 127 < getV s Z (R : Int) := fun q => g1 (.inr q)
            clear g1
            obtain ⟨V, eV⟩ : ∃ V, getV s Z (R : Int) = V := ⟨_, rfl⟩
            rw [eV] at kG g2 g3
            dsimp only at hs2
            rw [eV] at hs2
            have hv : IntKind.i8.wrap V = V := wrap_i8 (by omega) (by omega)
            have HL := hidden_ (And.intro hs1 (And.intro hs2 hb))
            obtain ⟨fs, efs⟩ : ∃ fs, (fetV s (spots P k)).map (Value.int .i8) = fs := ⟨_, rfl⟩
            rw [efs] at hrow
            have HF := hidden_ efs
            clear eV hx hs1 hs2 hsp hok hb eZ eQ eR efs
            go_wp2_with (first
              | (go_at_call 74; refine kG.mono ?_; rintro e w' ⟨rfl, h1⟩; obtain rfl := h1.symm)
              | (at_builtin; refine wpList_append_own _ rfl (.tmp 47) (.tmp 50) 37 rfl w.heap.size 59 i0 (.int .i8 0) 1 1 Try.underlying37 hi hz0 hz1 hz2 rfl (by decide) _ _ _ rfl (World.ownsRow.alloc (w := wr) hrow _) ⟨_, 0, none⟩ 1 1 [.int .i8 V] rfl rfl (one_new _ _ _) (one_oneCell _ _) (by unfold maxLen; omega) (by omega) (by simp; omega) ?_; intro v' w3 ho' hg _))
            have hb3 : Below w.heap.size w w3 := (HL.out.2.2.alloc hws _).grown hg (by simp; omega) (fun q hq => (hrow.lt q hq).1)
            go_roundw
            case rel => exact ⟨k + 1, by omega, by go_num, HL.out.1, by rw [HL.out.2.1, List.map_append, HF.out]; exact ho', hb3⟩
            case measure => simp [intOf]; omega
        · have hx : stepE s (Z, (R : Int)) = getE s Z (R : Int) := by simp [stepE, g0]
          rw [hx] at hs1
          have he := fetE_prefix P (k + 1) N (by omega) (by rw [hs1]; exact g0)
          rw [hs1] at he
          have HL := hidden_ (And.intro (HP.out.below hb) (And.intro hb (And.intro he g0)))
          obtain ⟨V, eV⟩ : ∃ V, getV s Z (R : Int) = V := ⟨_, rfl⟩
          obtain ⟨E, eE⟩ : ∃ E, getE s Z (R : Int) = E := ⟨_, rfl⟩
          rw [eV, eE] at kG
          rw [eE] at g0 HL
          have g0' : (E == 0) = false := by simp [g0]
          have g0'' : (E != 0) = true := by simp [g0]
          clear eV eE hx hrow hs1 hs2 he hsp hok hb eZ eQ eR
          go_wp2_with (first | (go_at_call 74; refine kG.mono ?_; rintro e w' ⟨rfl, h1⟩; obtain rfl := h1.symm))
          go_ret2
          exact ⟨none, 0, 0, (by rw [← HX0.out.2, HL.out.2.2.1]; rfl), by rw [← HX0.out.1, HL.out.2.2.1, if_neg HL.out.2.2.2]; exact RowB.nil _ _, HL.out.1, HL.out.2.1⟩
      · have e : k = N := by omega
        subst e
        have HL := hidden_ (And.intro hok (And.intro hrow hb))
        clear hok hrow hb
        go_wp2
        go_ret2
        refine ⟨a9, k, c9, (by rw [← HX0.out.2, HL.out.1]; rfl), ?_, HP.out.below HL.out.2.2, HL.out.2.2⟩
        rw [← HX0.out.1, if_pos HL.out.1]
        exact ⟨by rw [fetV_len, spots_len], HL.out.2.1, fun z hz => by
          obtain ⟨y, hy, rfl⟩ := List.mem_map.1 hz
          have := stepE_zero (fetE_zero HL.out.1 y hy)
          exact wf_i8 this.2.1 this.2.2⟩

end Go.Proofs.Ytfggkkhehaafcaa

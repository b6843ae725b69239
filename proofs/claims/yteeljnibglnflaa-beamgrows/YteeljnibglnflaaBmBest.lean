/- The place of the best beam, the program and the document: contracts of the calls. -/
import Derived.Test.YteeljnibglnflaaRows
import Derived.Test.YteeljnibglnflaaView
import Derived.Test.YteeljnibglnflaaOwn
import Derived.Test.YteeljnibglnflaaSat
import Derived.Test.YteeljnibglnflaaSatRef
import Derived.Test.YteeljnibglnflaaRanks
import Derived.Test.YteeljnibglnflaaRank
import Derived.Test.YteeljnibglnflaaRefTop
import Derived.Test.YteeljnibglnflaaBmZ
import Derived.Test.YteeljnibglnflaaBmAt
import Derived.Test.YteeljnibglnflaaBmFin
import Derived.Test.YteeljnibglnflaaBmPre
import Derived.WalkKit
import Derived.ProofKit
import Derived.OpenShut
import Derived.WalkLawsBesides
import Derived.Below
import Derived.Deep.QuietTactic
import Derived.BigQuiet
import Derived.Laws.AppendOwnNone
namespace Go.Proofs.Yteeljnibglnflaa
set_option maxRecDepth 20000
open Go.ChangeShapes Go.WideShapes Go.ChangeAt Go.RowKit
set_option linter.unusedVariables false
set_option linter.unusedSimpArgs false

theorem finals_len (L : Nat → Bm) (n : Nat) (p : Int) : (finals L n p).length = n := by simp [finals]
theorem finals_at (L : Nat → Bm) (n : Nat) (p : Int) {i : Nat} (h : i < n) : (finals L n p).getD i 0 = finalZ (L i) p := by simp [finals, List.getD, h]

theorem divZ_in (a b : Int) : -2147483648 ≤ divZ a b ∧ divZ a b ≤ 2147483647 := by
  unfold divZ
  split
  · unfold noughtZ
    split
    · omega
    · split <;> omega
  · exact clampZ_bounds _

theorem finalZ_bounds (b : Bm) (p : Int) (h : (Lit.int .i64 b.s).wf = true) : (Lit.int .i64 (finalZ b p)).wf = true := by
  have hb := divZ_in b.s (65536 + 4096 * (min 64 (max 0 p)) * (min 1000 (b.t.length : Int)))
  exact wf_small (by unfold finalZ; omega) (by unfold finalZ; omega)

/-- the first of the greatest -/
theorem max_is {xs : List Int} {n b : Nat} (hl : xs.length = n) (hb : b < n) (h : ∀ j, j < n → j ≠ b → ahead xs b j = true) : maxZ xs = (b : Nat) := by
  unfold maxZ
  rw [if_neg (by omega)]
  have P := places_ordered xs
  rw [hl] at P
  have r : rankTo xs n b = 0 := by
    unfold rankTo
    rw [List.countP_eq_zero]
    intro j hj
    have hj' := List.mem_range.1 hj
    by_cases e : j = b
    · subst e; rw [ahead_irrefl]; decide
    · rw [ahead_asymm (h j hj' e)]; decide
  rw [(P.rank_iff hb (by omega)).1 r]

theorem Best_call (a0 : Option Addr) (n ca : Nat) (A : Nat → Option Addr) (C : Nat → Nat) (L : Nat → Bm) (p : Int) (w : World) (h0 : BmAt w a0 n A C L) :
    Calls Try.prog 17 #[.slice a0 n ca, .int .i64 p] w fun e w' => e = .returned (.int .i64 (maxZ (finals L n p))) ∧ Below w.heap.size w w' := by
  have hm := h0.max
  have H0 : Hid (BmAt w a0 n A C L) := h0
  obtain ⟨Z, eZ⟩ : ∃ Z, maxZ (finals L n p) = Z := ⟨_, rfl⟩
  rw [eZ]
  have HZ : Hid (maxZ (finals L n p) = Z) := eZ
  clear h0 eZ
  go_enter Try.func17, Try.ntmps17
  go_wp2
  go_loopw [5, 6, 12] (fun b g i wr => ∃ (k : Nat) (z y : Int), k ≤ n ∧ i = .int .i64 k ∧ b = .int .i64 z ∧ g = .int .i64 y ∧ Below w.heap.size w wr ∧ Hid ((k = 0 ∧ z = -1 ∧ y = 0) ∨ ∃ q : Nat, z = (q : Int) ∧ q < k ∧ y = finalZ (L q) p ∧ ∀ j, j < k → j ≠ q → ahead (finals L n p) q j = true)) (fun _ _ i _ => n - (intOf i).toNat)
  case atStart => exact ⟨0, -1, 0, Nat.zero_le _, rfl, rfl, rfl, Below.refl _ _, .inl ⟨rfl, rfl, rfl⟩⟩
  case round =>
    obtain ⟨k, z, yy, hk, rfl, rfl, rfl, hbr, HQ⟩ := hrel
    by_cases hlt : k < n
    · obtain ⟨x, hx⟩ := H0.out.some_ (by omega)
      subst hx
      have hr := H0.out.below hbr
      obtain ⟨y, ey, d0, d1, d2⟩ := hr.at3 hlt
      have ww := H0.out.wf k hlt
      have tm := (hr.row k hlt).max
      have kf := fun W => final_call (A k) (L k).t.length (C k) (L k).s p (L k).f ww tm W
      have EF : Hid (divZ (L k).s (65536 + 4096 * (min 64 (max 0 p)) * (min 1000 ((L k).t.length : Int))) = finalZ (L k) p) := show _ = _ from rfl
      rw [EF.out] at kf
      have bb := below_new hbr (.cells #[.slice (A k) (L k).t.length (C k), .int .i64 (L k).s, .bool (L k).f] 40)
      have fk := finals_at L n p hlt
      rcases HQ.out with ⟨k0, z0, y0⟩ | ⟨q, z0, hqk, y0, hq⟩
      · subst z0
        subst y0
        have HK : Hid (k = 0) := k0
        obtain ⟨V, eV⟩ : ∃ V, finalZ (L k) p = V := ⟨_, rfl⟩
        rw [eV] at kf
        have HV : Hid (finalZ (L k) p = V) := eV
        clear EF eV fk k0 HQ hr
        go_wp2_with (go_at_call 15; refine (kf _).mono ?_; rintro e w3 ⟨rfl, hb3⟩)
        have b3 := below_then bb hb3
        go_roundw
        case rel => exact ⟨k + 1, (k : Int), V, by omega, by go_num, rfl, rfl, b3, .inr ⟨k, rfl, by omega, HV.out.symm, fun j hj hne => by have := HK.out; omega⟩⟩
        case measure => simp [intOf]; omega
      · subst z0
        have fq := finals_at L n p (show q < n by omega)
        have HQ2 : Hid (∀ j, j < k → j ≠ q → ahead (finals L n p) q j = true) := hq
        have hq0 : ¬ ((q : Int) < 0) := by omega
        have aw := fun i j => ahead_iff (finals L n p) i j
        have AW : Hid _ := aw
        obtain ⟨V, eV⟩ : ∃ V, finalZ (L k) p = V := ⟨_, rfl⟩
        rw [eV] at kf fk
        have HV : Hid (finalZ (L k) p = V) := eV
        have HFK : Hid ((finals L n p).getD k 0 = V) := fk
        have HFQ : Hid ((finals L n p).getD q 0 = yy) := show (finals L n p).getD q 0 = yy by rw [y0]; exact fq
        have HY : Hid (yy = finalZ (L q) p) := y0
        clear EF eV fk fq hq HQ hr y0 aw
        by_cases hgt : yy < V
        · go_wp2_with (go_at_call 15; refine (kf _).mono ?_; rintro e w3 ⟨rfl, hb3⟩)
          have b3 := below_then bb hb3
          go_roundw
          case rel => exact ⟨k + 1, (k : Int), V, by omega, by go_num, rfl, rfl, b3, .inr ⟨k, rfl, by omega, HV.out.symm, fun j hj hne => by
            rw [AW.out, HFK.out]
            by_cases e : j = q
            · subst e; rw [HFQ.out]; exact .inl hgt
            · have := (AW.out q j).1 (HQ2.out j (by omega) e)
              rw [HFQ.out] at this
              exact .inl (by omega)⟩⟩
          case measure => simp [intOf]; omega
        · go_wp2_with (go_at_call 15; refine (kf _).mono ?_; rintro e w3 ⟨rfl, hb3⟩)
          have b3 := below_then bb hb3
          go_roundw
          case rel => exact ⟨k + 1, (q : Int), yy, by omega, by go_num, rfl, rfl, b3, .inr ⟨q, rfl, by omega, HY.out, fun j hj hne => by
            by_cases e : j = k
            · subst e
              rw [AW.out, HFK.out, HFQ.out]
              omega
            · exact HQ2.out j (by omega) hne⟩⟩
          case measure => simp [intOf]; omega
    · obtain rfl : k = n := by omega
      have HE : Hid (z = Z) := by
        show z = Z
        rw [← HZ.out]
        rcases HQ.out with ⟨k0, z0, y0⟩ | ⟨q, z0, hqk, y0, hq⟩
        · rw [z0]
          unfold maxZ
          rw [finals_len, if_pos k0]
        · rw [z0]
          exact (max_is (finals_len L k p) hqk hq).symm
      clear HQ HZ
      go_wp2
      go_ret
      exact ⟨by have := HE.out; subst this; rfl, hbr⟩

theorem refBest_call (a0 : Option Addr) (n ca : Nat) (A : Nat → Option Addr) (C : Nat → Nat) (L : Nat → Bm) (p : Int) (w : World) (h0 : BmAt w a0 n A C L) (hn : n ≤ 1000) :
    Calls Try.prog 18 #[.slice a0 n ca, .int .i64 p] w fun e w' => e = .returned (.int .i64 (maxZ (finals L n p))) ∧ Below w.heap.size w w' := by
  obtain ⟨i0, hi, hz0, hz1, hz2⟩ := info_parts info2
  have hm := h0.max
  have H0 : Hid (BmAt w a0 n A C L) := h0
  have FW : Hid (∀ z ∈ finals L n p, (Lit.int .i64 z).wf = true) := show ∀ z ∈ finals L n p, _ from fun z hz => by
    obtain ⟨i, hi, rfl⟩ := List.mem_map.1 hz
    exact finalZ_bounds _ _ (h0.wf i (List.mem_range.1 hi))
  have kx := fun a c W h => refMax_call a n c (finals L n p) W h (by omega)
  have KX : Hid _ := kx
  obtain ⟨Z, eZ⟩ : ∃ Z, maxZ (finals L n p) = Z := ⟨_, rfl⟩
  rw [eZ] at KX ⊢
  clear h0 eZ kx
  go_enter Try.func18, Try.ntmps18
  go_wp2
  go_loopw [5, 6] (fun v i wr => ∃ k : Nat, k ≤ n ∧ i = .int .i64 k ∧ Below w.heap.size w wr ∧ wr.ownsRow w.heap.size 2 1 v k (gath (fun i => finalZ (L i) p) .i64 k)) (fun _ i _ => n - (intOf i).toNat)
  case atStart => exact ⟨0, Nat.zero_le _, rfl, Below.refl _ _, World.ownsRow_nil _ _ _ _⟩
  case round =>
    obtain ⟨k, hk, rfl, hbr, ho⟩ := hrel
    by_cases hlt : k < n
    · obtain ⟨x, hx⟩ := H0.out.some_ (by omega)
      subst hx
      have hr := H0.out.below hbr
      obtain ⟨y, ey, d0, d1, d2⟩ := hr.at3 hlt
      have ww := H0.out.wf k hlt
      have tm := (hr.row k hlt).max
      have kf := fun W => refFinal_call (A k) (L k).t.length (C k) (L k).s p (L k).f ww tm W
      have EF : Hid (divZ (L k).s (65536 + 4096 * (min 64 (max 0 p)) * (min 1000 ((L k).t.length : Int))) = finalZ (L k) p) := show _ = _ from rfl
      rw [EF.out] at kf
      obtain ⟨V, eV⟩ : ∃ V, finalZ (L k) p = V := ⟨_, rfl⟩
      rw [eV] at kf
      have HV : Hid (V = finalZ (L k) p) := eV.symm
      have hos := hbr.size
      clear EF eV hr
      go_wp2_with (first
        | (go_at_call 16; refine (kf _).mono ?_; rintro e w3 ⟨rfl, hb3⟩
           have hbr3 := below_then hbr hb3
           have ho3 := own_below3 ho hb3
           have hos3 := hbr3.size)
        | (at_builtin; refine wpList_append_own _ rfl (.tmp 13) (.tmp 20) 46 rfl w.heap.size 2 i0 (.int .i64 0) 1 8 Try.underlying46 hi hz0 hz1 hz2 rfl (by decide) _ _ _ rfl (ho3.alloc _) ⟨_, 0, none⟩ 1 1 [.int .i64 V] rfl rfl (one_new _ _ _) (one_oneCell _ _) (by unfold maxLen; omega) (by omega) (by simp; omega) ?_; intro v5 w5 ho5 hg5 _))
      have st := append_step (F := fun i => finalZ (L i) p) hos3 HV.out hbr3 ho3 ho5 hg5
      go_roundw
      case rel => exact ⟨k + 1, by omega, by go_num, st.1, st.2⟩
      case measure => simp [intOf]; omega
    · obtain rfl : k = n := by omega
      obtain ⟨a', c', ev, rd⟩ := own_reads (k := .i64) (zs := finals L k p) ho (finals_len L k p) FW.out (fun j hj => by rw [gath_at _ _ _ _ hj, finals_at L k p hj])
      subst ev
      have kx := KX.out a' c' _ rd
      clear KX ho rd
      go_wp2_with (go_at_call 30; refine kx.mono ?_; rintro e w3 ⟨rfl, hb3⟩)
      go_ret
      exact ⟨rfl, below_then hbr hb3⟩

end Go.Proofs.Yteeljnibglnflaa

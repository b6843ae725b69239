/- Numbers (the first fifty of any row) and weights (any row of at most 5000; longer ones are passed over) that the program writes one behind the other are read again by its reader as they were, and nothing is left; no condition. -/
import Derived.Test.YtipjjciafcpgfaaRows
import Derived.Test.YtipjjciafcpgfaaView
import Derived.Test.YtipjjciafcpgfaaOwn
import Derived.Test.YtipjjciafcpgfaaWorks
import Derived.Test.YtipjjciafcpgfaaTexts
import Derived.Test.YtipjjciafcpgfaaSums
import Derived.Test.YtipjjciafcpgfaaSeals
import Derived.Test.YtipjjciafcpgfaaOpens
import Derived.Test.YtipjjciafcpgfaaWts
import Derived.Test.YtipjjciafcpgfaaReader
import Derived.Test.YtipjjciafcpgfaaTwos
import Derived.Test.YtipjjciafcpgfaaRdWts
import Derived.Test.YtipjjciafcpgfaaRefWts
import Derived.Test.YtipjjciafcpgfaaLooks
import Derived.Test.YtipjjciafcpgfaaChange
import Derived.Test.YtipjjciafcpgfaaBack
import Derived.WalkKit
import Derived.ProofKit
import Derived.OpenShut
import Derived.ChangeOld
import Derived.Below
import Derived.WalkLawsBesides
import Derived.ChangeMaps5
import Derived.Deep.RegionHeld3
namespace Go.Proofs.Ytipjjciafcpgfaa.bytesBack
open Go.ChangeShapes Go.WideShapes Go.ChangeAt Go.RowKit
set_option linter.unusedVariables false
set_option linter.unusedSimpArgs false

theorem own : ownKnob Try.prog.godebug = none := by kernel_rfl
theorem laidOut : laidOutB Try.prog = true := by kernel_rfl



set_option maxHeartbeats 4000000 in
theorem walk (a0 : Option Addr) (n0 c0 : Nat) (z0 : List Int) (a1 : Option Addr) (n1 c1 : Nat) (z1 : List Int) (w : World) (w0 : Reads .i64 w a0 n0 z0) (e0 : a0 = none → c0 = 0) (l0 : n0 ≤ c0) (w1 : Reads .i8 w a1 n1 z1) (e1 : a1 = none → c1 = 0) (l1 : n1 ≤ c1) :
    Calls Try.prog 5 #[.slice a0 n0 c0, .slice a1 n1 c1] w fun e w' => e = .returned (.bool true) ∧ Below w.heap.size w w' := by
  have hm := w0.max
  have k26 := works_call
  by_cases h : 5000 < n1
  · have h' : (5000 : Int) < (n1 : Int) := by omega
    go_enter Try.func5, Try.ntmps5
    go_wp2_with (go_at_call 26; refine (k26 _).mono ?_; rintro e W1 ⟨rfl, hb1⟩)
    go_ret
    exact ⟨rfl, hb1⟩
  have hn : (n1 : Int) ≤ 5000 := by omega
  have hn' : decide ((5000 : Int) < (n1 : Int)) = false := by simp; omega
  have hn'' : decide (5000 < n1) = false := by simp; omega
  have k12 := fun W (r : Reads .i8 W a1 n1 z1) => weights_call a1 n1 c1 z1 W r l1
  have hC : (wtsS z1).size ≤ 5002 := by
    unfold wtsS
    rw [ByteArray.size_append, two_size, wtsB_size, w1.len]
    omega
  obtain ⟨C, eC⟩ : ∃ C, wtsS z1 = C := ⟨_, rfl⟩
  rw [eC] at k12 hC
  clear h
  by_cases hN : n0 ≤ 50
  · go_enter Try.func5, Try.ntmps5
    go_wp2_with (go_at_call 26; refine (k26 _).mono ?_; rintro e W1 ⟨rfl, hb1⟩)
    go_loopw [5, 6] (fun v i wr => ∃ k : Nat, k ≤ n0 ∧ v = .string (txtTo z0 C k) ∧ i = .int .i64 k ∧ Below w.heap.size w wr) (fun _ i _ => n0 - (intOf i).toNat)
    case atStart => exact ⟨0, by omega, rfl, rfl, hb1⟩
    case round =>
      obtain ⟨k, hk, rfl, rfl, hbr⟩ := hrel
      by_cases hlt : k < n0
      · have h1 : k < n0 := by omega
        have h2 : k < 50 := by omega
        obtain ⟨x, rfl⟩ := w0.some_ (by omega)
        have cx := (w0.below hbr).cell x rfl k h1
        have k10 := fun W => two_call (z0.getD k 0) W (w0.wf k)
        have hA := txt_size z0 C k
        have hA' : (txtTo z0 C k).size ≤ 300000 := by
          rw [hA]
          exact Nat.le_trans (Nat.mul_le_mul (show k ≤ 50 by omega) (show 2 + C.size ≤ 6000 by omega)) (by decide)
        have st : txtTo z0 C (k + 1) = txtTo z0 C k ++ two (z0.getD k 0) ++ C := rfl
        have hB := two_size (z0.getD k 0)
        obtain ⟨Z, eZ⟩ : ∃ Z, z0.getD k 0 = Z := ⟨_, rfl⟩
        obtain ⟨A, eA⟩ : ∃ A, txtTo z0 C k = A := ⟨_, rfl⟩
        obtain ⟨B, eB⟩ : ∃ B, two Z = B := ⟨_, rfl⟩
        rw [eZ] at cx k10 st hB
        rw [eA] at hA' st ⊢
        rw [eB] at k10 st hB
        have St : Hid (txtTo z0 C (k + 1) = A ++ B ++ C) := st
        clear st hA eZ eA eB
        go_wp2_with (first
          | (go_at_call 10; refine (k10 _).mono ?_; rintro e W2 ⟨rfl, hb2⟩; have hb3 := below_then hbr (below_one hb2); clear hb2)
          | (go_at_call 12; refine (k12 _ (w1.below hb3)).mono ?_; rintro e W3 ⟨rfl, hb2⟩; replace hb3 := below_then hb3 hb2; clear hb2))
        go_roundw
        case rel => exact ⟨k + 1, by omega, by rw [St.out], by go_num, hb3⟩
        case measure => simp [intOf]; omega
      · have e : n0 = k := by omega
        subst e
        have h50 := (show ¬ ((n0 : Int) < (n0 : Int)) by omega)
        rw [txt_all]
        have k18 := newReader_call (restTo z0 C 0 n0) wr
        have r0 := Rd.new 55 wr (restTo z0 C 0 n0) 0
        have b0 := below_new hbr (.cells #[.string (restTo z0 C 0 n0), .int .i64 0] 55)
        have hsz := hbr.size
        obtain ⟨R0, eR0⟩ : ∃ R0, restTo z0 C 0 n0 = R0 := ⟨_, rfl⟩
        rw [eR0] at k18 r0 b0 ⊢
        have ER : Hid (restTo z0 C 0 n0 = R0) := eR0
        clear eR0 k12 k26 hk hlt hb1
        go_wp2_with (go_at_call 18; refine k18.mono ?_; rintro e W2 ⟨rfl, hw⟩; rw [← hw] at r0 b0; clear hw)
        clear k18
        obtain ⟨bb, ebb⟩ : ∃ bb, wr.heap.size = bb := ⟨_, rfl⟩
        rw [ebb] at r0 hsz ⊢
        clear ebb hbr
        obtain ⟨wrA, eA⟩ : ∃ wrA, wrA = wr := ⟨wr, rfl⟩
        subst eA
        go_loopw [8] (fun i wr => ∃ k : Nat, k ≤ n0 ∧ i = .int .i64 k ∧ Rd 55 wr bb (restTo z0 C k (n0 - k)) 0 ∧ Below w.heap.size w wr) (fun i _ => n0 - (intOf i).toNat)
        case atStart => exact ⟨0, by omega, rfl, by rw [show n0 - 0 = n0 by omega, ER.out]; exact r0, b0⟩
        case round =>
          obtain ⟨k, hk, rfl, r1, hbr⟩ := hrel
          by_cases hlt : k < n0
          · have h1 : k < n0 := by omega
            have h2 : k < 50 := by omega
            obtain ⟨x, rfl⟩ := w0.some_ (by omega)
            have cx := (w0.below hbr).cell x rfl k h1
            have wz := w0.wf k
            rw [show n0 - k = (n0 - (k + 1)) + 1 by omega] at r1
            simp only [restTo] at r1
            have zz : -9223372036854775808 ≤ z0.getD k 0 ∧ z0.getD k 0 ≤ 9223372036854775807 := by simpa [Lit.wf, IntKind.min, IntKind.max, IntKind.signed, IntKind.bits] using wz
            obtain ⟨R, eR⟩ : ∃ R, restTo z0 C (k + 1) (n0 - (k + 1)) = R := ⟨_, rfl⟩
            obtain ⟨Z, eZ⟩ : ∃ Z, z0.getD k 0 = Z := ⟨_, rfl⟩
            rw [eZ, eR] at r1
            rw [eZ] at cx zz
            have ER' : Hid (restTo z0 C (k + 1) (n0 - (k + 1)) = R) := eR
            have k19 := fun W (r : Rd 55 W bb (two Z ++ (C ++ R)) 0) => two_reader r
            obtain ⟨v1, v2, v3⟩ := two_front Z (C ++ R)
            rw [v1, v2, v3] at k19
            have k22 := fun W (r : Rd 55 W bb (C ++ R) 0) => weights_reader r (n1 : Int)
            obtain ⟨y1, y2, y3⟩ := wts_front z1 R (by rw [w1.len]; omega) w1.wf_mem
            rw [eC, w1.len] at y1 y2 y3
            rw [y1, y2, y3] at k22
            obtain ⟨D, eD⟩ : ∃ D, C ++ R = D := ⟨_, rfl⟩
            obtain ⟨D', eD'⟩ : ∃ D', two Z ++ D = D' := ⟨_, rfl⟩
            rw [eD] at k22 r1 k19
            rw [eD'] at r1 k19
            obtain ⟨T, eT⟩ : ∃ T, Z.tmod 65536 = T := ⟨_, rfl⟩
            have t0 : -65536 < T ∧ T < 65536 := by
              subst eT
              have := Int.lt_tmod_of_pos Z (b := 65536) (by decide)
              have := Int.tmod_lt_of_pos Z (b := 65536) (by decide)
              omega
            obtain ⟨V, eV⟩ : ∃ V, Z % 65536 = V := ⟨_, rfl⟩
            have eM : (T + 65536).tmod 65536 = V := by
              rw [← eV, Int.tmod_eq_emod_of_nonneg (by omega)]
              have := Int.mul_tdiv_add_tmod Z 65536
              rw [eT] at this
              omega
            rw [eV] at k19
            obtain ⟨t1, t2⟩ := t0
            obtain ⟨Q, eQ⟩ : ∃ Q, T + 65536 = Q := ⟨_, rfl⟩
            rw [eQ] at eM
            have q1 : 0 < Q := by omega
            have q2 : Q < 131072 := by omega
            have x1 : IntKind.i64.wrap Q = Q := by
              unfold IntKind.wrap
              simp [IntKind.signed, IntKind.bits]
              omega
            have x2 : wrap64 Q = Q := by
              have := x1
              unfold wrap64
              omega
            have rd := r1.drew
            have key : ∀ W1, Only bb wr.drew W1 → W1.cell? (x.add k) = some (.int .i64 Z) ∧ Below w.heap.size w W1 := fun W1 o1 => by
              have hb1 := Only.below hbr.drew hsz hbr.size o1
              refine ⟨?_, hb1⟩
              rw [← eZ]
              exact (w0.below hb1).cell x rfl k h1
            have key2 : ∀ W2 W3, Below w.heap.size w W2 → Only bb W2 W3 → Below w.heap.size w W3 ∧ Reads .i8 W3 a1 n1 z1 ∧ W3.cell? (x.add k) = some (.int .i64 Z) := fun W2 W3 hb2 o2 => by
              have hb3 := Only.below hb2 hsz hb2.size o2
              exact ⟨hb3, w1.below hb3, by rw [← eZ]; exact (w0.below hb3).cell x rfl k h1⟩
            have key3 : ∀ (W3 W4 : World), (∃ m, W4 = W3.drewN m) → Rd 55 W3 bb R 0 → Below w.heap.size w W3 → Rd 55 W4 bb R 0 ∧ Below w.heap.size w W4 ∧ W4.cell? (x.add k) = some (.int .i64 Z) := by
              rintro W3 W4 ⟨m, rfl⟩ q1 q3
              have hb4 := below_drew q3 ⟨m, rfl⟩
              exact ⟨q1.drewN m, hb4, by rw [← eZ]; exact (w0.below hb4).cell x rfl k h1⟩
            clear v1 v2 v3 y1 y2 y3 eZ eR eD eD' eV wz zz r1
            go_wp2
            go_region_held3 (fun w' => w'.cell? (x.add k) = some (.int .i64 Z)) (first | assumption | exact cx) (first
              | (go_at_call 19; refine (k19 _ rd).mono ?_; rintro e W2 ⟨rfl, q1, o1⟩; obtain ⟨cx1, hb2⟩ := key W2 o1)
              | (go_at_call 22; refine (k22 _ q1).mono ?_; rintro e W3 ⟨⟨p3, m3, q3, rfl, rd3, fr3⟩, q2, o2⟩; obtain ⟨hb3, rd4, cx2⟩ := key2 _ _ hb2 o2)
              | (go_at_call 21; refine (same_call _ _ _ z1 _ _ _ _ rd3 rd4).mono ?_; rintro e W4 ⟨rfl, hq⟩; obtain ⟨q4, hb4, cx3⟩ := key3 _ _ hq q2 hb3))
            all_goals
              clear k19 k22 key key2 key3 rd cx
              go_wp2
              go_roundw
              case rel => exact ⟨k + 1, by omega, by go_num, by rw [ER'.out]; exact q4, hb4⟩
              case measure => simp [intOf]; omega
          · have e : n0 = k := by omega
            subst e
            rw [show n0 - n0 = 0 by omega] at r1
            simp only [restTo] at r1
            have k24 := end_reader r1
            rw [lk_end0] at k24
            go_wp2_with (go_at_call 24; refine k24.mono ?_; rintro e W4 ⟨rfl, hw⟩; obtain rfl := hw.symm)
            go_ret
            exact ⟨rfl, hbr⟩
  · go_enter Try.func5, Try.ntmps5
    go_wp2_with (go_at_call 26; refine (k26 _).mono ?_; rintro e W1 ⟨rfl, hb1⟩)
    go_loopw [5, 6] (fun v i wr => ∃ k : Nat, k ≤ 50 ∧ v = .string (txtTo z0 C k) ∧ i = .int .i64 k ∧ Below w.heap.size w wr) (fun _ i _ => 50 - (intOf i).toNat)
    case atStart => exact ⟨0, by omega, rfl, rfl, hb1⟩
    case round =>
      obtain ⟨k, hk, rfl, rfl, hbr⟩ := hrel
      by_cases hlt : k < 50
      · have h1 : k < n0 := by omega
        have h2 : k < 50 := by omega
        obtain ⟨x, rfl⟩ := w0.some_ (by omega)
        have cx := (w0.below hbr).cell x rfl k h1
        have k10 := fun W => two_call (z0.getD k 0) W (w0.wf k)
        have hA := txt_size z0 C k
        have hA' : (txtTo z0 C k).size ≤ 300000 := by
          rw [hA]
          exact Nat.le_trans (Nat.mul_le_mul (show k ≤ 50 by omega) (show 2 + C.size ≤ 6000 by omega)) (by decide)
        have st : txtTo z0 C (k + 1) = txtTo z0 C k ++ two (z0.getD k 0) ++ C := rfl
        have hB := two_size (z0.getD k 0)
        obtain ⟨Z, eZ⟩ : ∃ Z, z0.getD k 0 = Z := ⟨_, rfl⟩
        obtain ⟨A, eA⟩ : ∃ A, txtTo z0 C k = A := ⟨_, rfl⟩
        obtain ⟨B, eB⟩ : ∃ B, two Z = B := ⟨_, rfl⟩
        rw [eZ] at cx k10 st hB
        rw [eA] at hA' st ⊢
        rw [eB] at k10 st hB
        have St : Hid (txtTo z0 C (k + 1) = A ++ B ++ C) := st
        clear st hA eZ eA eB
        go_wp2_with (first
          | (go_at_call 10; refine (k10 _).mono ?_; rintro e W2 ⟨rfl, hb2⟩; have hb3 := below_then hbr (below_one hb2); clear hb2)
          | (go_at_call 12; refine (k12 _ (w1.below hb3)).mono ?_; rintro e W3 ⟨rfl, hb2⟩; replace hb3 := below_then hb3 hb2; clear hb2))
        go_roundw
        case rel => exact ⟨k + 1, by omega, by rw [St.out], by go_num, hb3⟩
        case measure => simp [intOf]; omega
      · have e : 50 = k := by omega
        subst e
        have h50 := (show (50 : Int) < (n0 : Int) by omega)
        rw [txt_all]
        have k18 := newReader_call (restTo z0 C 0 50) wr
        have r0 := Rd.new 55 wr (restTo z0 C 0 50) 0
        have b0 := below_new hbr (.cells #[.string (restTo z0 C 0 50), .int .i64 0] 55)
        have hsz := hbr.size
        obtain ⟨R0, eR0⟩ : ∃ R0, restTo z0 C 0 50 = R0 := ⟨_, rfl⟩
        rw [eR0] at k18 r0 b0 ⊢
        have ER : Hid (restTo z0 C 0 50 = R0) := eR0
        clear eR0 k12 k26 hk hlt hb1
        go_wp2_with (go_at_call 18; refine k18.mono ?_; rintro e W2 ⟨rfl, hw⟩; rw [← hw] at r0 b0; clear hw)
        clear k18
        obtain ⟨bb, ebb⟩ : ∃ bb, wr.heap.size = bb := ⟨_, rfl⟩
        rw [ebb] at r0 hsz ⊢
        clear ebb hbr
        obtain ⟨wrA, eA⟩ : ∃ wrA, wrA = wr := ⟨wr, rfl⟩
        subst eA
        go_loopw [8] (fun i wr => ∃ k : Nat, k ≤ 50 ∧ i = .int .i64 k ∧ Rd 55 wr bb (restTo z0 C k (50 - k)) 0 ∧ Below w.heap.size w wr) (fun i _ => 50 - (intOf i).toNat)
        case atStart => exact ⟨0, by omega, rfl, by rw [show 50 - 0 = 50 by omega, ER.out]; exact r0, b0⟩
        case round =>
          obtain ⟨k, hk, rfl, r1, hbr⟩ := hrel
          by_cases hlt : k < 50
          · have h1 : k < n0 := by omega
            have h2 : k < 50 := by omega
            obtain ⟨x, rfl⟩ := w0.some_ (by omega)
            have cx := (w0.below hbr).cell x rfl k h1
            have wz := w0.wf k
            rw [show 50 - k = (50 - (k + 1)) + 1 by omega] at r1
            simp only [restTo] at r1
            have zz : -9223372036854775808 ≤ z0.getD k 0 ∧ z0.getD k 0 ≤ 9223372036854775807 := by simpa [Lit.wf, IntKind.min, IntKind.max, IntKind.signed, IntKind.bits] using wz
            obtain ⟨R, eR⟩ : ∃ R, restTo z0 C (k + 1) (50 - (k + 1)) = R := ⟨_, rfl⟩
            obtain ⟨Z, eZ⟩ : ∃ Z, z0.getD k 0 = Z := ⟨_, rfl⟩
            rw [eZ, eR] at r1
            rw [eZ] at cx zz
            have ER' : Hid (restTo z0 C (k + 1) (50 - (k + 1)) = R) := eR
            have k19 := fun W (r : Rd 55 W bb (two Z ++ (C ++ R)) 0) => two_reader r
            obtain ⟨v1, v2, v3⟩ := two_front Z (C ++ R)
            rw [v1, v2, v3] at k19
            have k22 := fun W (r : Rd 55 W bb (C ++ R) 0) => weights_reader r (n1 : Int)
            obtain ⟨y1, y2, y3⟩ := wts_front z1 R (by rw [w1.len]; omega) w1.wf_mem
            rw [eC, w1.len] at y1 y2 y3
            rw [y1, y2, y3] at k22
            obtain ⟨D, eD⟩ : ∃ D, C ++ R = D := ⟨_, rfl⟩
            obtain ⟨D', eD'⟩ : ∃ D', two Z ++ D = D' := ⟨_, rfl⟩
            rw [eD] at k22 r1 k19
            rw [eD'] at r1 k19
            obtain ⟨T, eT⟩ : ∃ T, Z.tmod 65536 = T := ⟨_, rfl⟩
            have t0 : -65536 < T ∧ T < 65536 := by
              subst eT
              have := Int.lt_tmod_of_pos Z (b := 65536) (by decide)
              have := Int.tmod_lt_of_pos Z (b := 65536) (by decide)
              omega
            obtain ⟨V, eV⟩ : ∃ V, Z % 65536 = V := ⟨_, rfl⟩
            have eM : (T + 65536).tmod 65536 = V := by
              rw [← eV, Int.tmod_eq_emod_of_nonneg (by omega)]
              have := Int.mul_tdiv_add_tmod Z 65536
              rw [eT] at this
              omega
            rw [eV] at k19
            obtain ⟨t1, t2⟩ := t0
            obtain ⟨Q, eQ⟩ : ∃ Q, T + 65536 = Q := ⟨_, rfl⟩
            rw [eQ] at eM
            have q1 : 0 < Q := by omega
            have q2 : Q < 131072 := by omega
            have x1 : IntKind.i64.wrap Q = Q := by
              unfold IntKind.wrap
              simp [IntKind.signed, IntKind.bits]
              omega
            have x2 : wrap64 Q = Q := by
              have := x1
              unfold wrap64
              omega
            have rd := r1.drew
            have key : ∀ W1, Only bb wr.drew W1 → W1.cell? (x.add k) = some (.int .i64 Z) ∧ Below w.heap.size w W1 := fun W1 o1 => by
              have hb1 := Only.below hbr.drew hsz hbr.size o1
              refine ⟨?_, hb1⟩
              rw [← eZ]
              exact (w0.below hb1).cell x rfl k h1
            have key2 : ∀ W2 W3, Below w.heap.size w W2 → Only bb W2 W3 → Below w.heap.size w W3 ∧ Reads .i8 W3 a1 n1 z1 ∧ W3.cell? (x.add k) = some (.int .i64 Z) := fun W2 W3 hb2 o2 => by
              have hb3 := Only.below hb2 hsz hb2.size o2
              exact ⟨hb3, w1.below hb3, by rw [← eZ]; exact (w0.below hb3).cell x rfl k h1⟩
            have key3 : ∀ (W3 W4 : World), (∃ m, W4 = W3.drewN m) → Rd 55 W3 bb R 0 → Below w.heap.size w W3 → Rd 55 W4 bb R 0 ∧ Below w.heap.size w W4 ∧ W4.cell? (x.add k) = some (.int .i64 Z) := by
              rintro W3 W4 ⟨m, rfl⟩ q1 q3
              have hb4 := below_drew q3 ⟨m, rfl⟩
              exact ⟨q1.drewN m, hb4, by rw [← eZ]; exact (w0.below hb4).cell x rfl k h1⟩
            clear v1 v2 v3 y1 y2 y3 eZ eR eD eD' eV wz zz r1
            go_wp2
            go_region_held3 (fun w' => w'.cell? (x.add k) = some (.int .i64 Z)) (first | assumption | exact cx) (first
              | (go_at_call 19; refine (k19 _ rd).mono ?_; rintro e W2 ⟨rfl, q1, o1⟩; obtain ⟨cx1, hb2⟩ := key W2 o1)
              | (go_at_call 22; refine (k22 _ q1).mono ?_; rintro e W3 ⟨⟨p3, m3, q3, rfl, rd3, fr3⟩, q2, o2⟩; obtain ⟨hb3, rd4, cx2⟩ := key2 _ _ hb2 o2)
              | (go_at_call 21; refine (same_call _ _ _ z1 _ _ _ _ rd3 rd4).mono ?_; rintro e W4 ⟨rfl, hq⟩; obtain ⟨q4, hb4, cx3⟩ := key3 _ _ hq q2 hb3))
            all_goals
              clear k19 k22 key key2 key3 rd cx
              go_wp2
              go_roundw
              case rel => exact ⟨k + 1, by omega, by go_num, by rw [ER'.out]; exact q4, hb4⟩
              case measure => simp [intOf]; omega
          · have e : 50 = k := by omega
            subst e
            rw [show 50 - 50 = 0 by omega] at r1
            simp only [restTo] at r1
            have k24 := end_reader r1
            rw [lk_end0] at k24
            go_wp2_with (go_at_call 24; refine k24.mono ?_; rintro e W4 ⟨rfl, hw⟩; obtain rfl := hw.symm)
            go_ret
            exact ⟨rfl, hbr⟩

theorem contract (H : Type) (enc : TypeId × Value → H) (W : World) (base : Nat) (args : Array Value) (ds gs : List (DataW H)) (before : List MemPlace)
    (hval0 : ∀ (j : Nat) t v, Try.f5.params[j]? = some t → args[j]? = some v → Value.okWide Try.prog W .any base t v)
    (hW : DataW.Whole enc Try.prog Try.f5.params.toList Rows.bytesBackSpec.vars false W args.toList ds gs before) :
    Calls Try.prog 5 args W fun e W' => ∃ v, e = .returned v ∧ Rows.bytesBackSpec.post enc Try.prog Try.f5 false true false false W args v W' := by
  have hval : ∀ (j : Nat) t v, Try.f5.params[j]? = some t → args[j]? = some v → Value.okWide Try.prog W .any base t v := hval0
  have hW' := hW
  obtain ⟨p, q, hA0, hV, rfl, hfz, hnd⟩ := hW
  have hA : DataW.TrodAll enc Try.prog W 0 (fun _ => true) true Try.f5.params.toList args.toList ds p := hA0
  rw [Try.params5] at hA hval
  obtain ⟨v0, vs0, d0, ds0, p0, q0, hargs, rfl, rfl, h0, r0⟩ := trodAll_cons hA
  obtain ⟨v1, vs1, d1, ds1, p1, q1, rfl, rfl, rfl, h1, r1⟩ := trodAll_cons r0
  obtain ⟨rfl, rfl, rfl⟩ := trodAll_nil r1
  obtain rfl : args = #[v0, v1] := by cases args; simp_all
  obtain ⟨rfl, rfl⟩ := trodVars_none hV
  obtain ⟨a0, n0, c0, rfl⟩ := okWide_slice Try.underlying31 (hval 0 31 v0 rfl rfl)
  have k0 := h0
  have lt0 : ∀ x ∈ p0, x.block < W.heap.size := by obtain ⟨m, hm⟩ := k0; exact DataW.trod_lt m _ _ _ hm
  obtain ⟨z0, w0, e0, l0, s0⟩ : ∃ zs, Reads .i64 W a0 n0 zs ∧ (a0 = none → c0 = 0) ∧ n0 ≤ c0 ∧ (n0 = 0 ∨ ∃ el sp, d0 = .slice el sp ∧ n0 ≤ el.length + sp.length) := by
    obtain ⟨fuel, hf⟩ := h0
    rcases open_ints Try.underlying31 Try.underlying3 (by kernel_rfl) hf with ⟨hcs, hd⟩ | ⟨x, l, c, zs, hcs, _, hl, hm, hz, hd, hcell, hwz⟩
    · simp [Value.cells] at hcs
      obtain ⟨rfl, rfl, rfl⟩ := hcs
      exact ⟨[], Reads.nil _ _, fun _ => rfl, Nat.le_refl _, .inl rfl⟩
    · simp [Value.cells] at hcs
      obtain ⟨rfl, rfl, rfl⟩ := hcs
      exact ⟨_, Reads.of_open hl hm (by simpa using hz) hcell hwz, (fun h => by cases h), hl, .inr ⟨_, _, congrArg Prod.fst hd, open_length (by simpa using hz) hl⟩⟩
  obtain ⟨a1, n1, c1, rfl⟩ := okWide_slice Try.underlying22 (hval 1 22 v1 rfl rfl)
  have k1 := h1
  have lt1 : ∀ x ∈ p1, x.block < W.heap.size := by obtain ⟨m, hm⟩ := k1; exact DataW.trod_lt m _ _ _ hm
  obtain ⟨z1, w1, e1, l1, s1⟩ : ∃ zs, Reads .i8 W a1 n1 zs ∧ (a1 = none → c1 = 0) ∧ n1 ≤ c1 ∧ (n1 = 0 ∨ ∃ el sp, d1 = .slice el sp ∧ n1 ≤ el.length + sp.length) := by
    obtain ⟨fuel, hf⟩ := h1
    rcases open_ints Try.underlying22 Try.underlying49 (by kernel_rfl) hf with ⟨hcs, hd⟩ | ⟨x, l, c, zs, hcs, _, hl, hm, hz, hd, hcell, hwz⟩
    · simp [Value.cells] at hcs
      obtain ⟨rfl, rfl, rfl⟩ := hcs
      exact ⟨[], Reads.nil _ _, fun _ => rfl, Nat.le_refl _, .inl rfl⟩
    · simp [Value.cells] at hcs
      obtain ⟨rfl, rfl, rfl⟩ := hcs
      exact ⟨_, Reads.of_open hl hm (by simpa using hz) hcell hwz, (fun h => by cases h), hl, .inr ⟨_, _, congrArg Prod.fst hd, open_length (by simpa using hz) hl⟩⟩
  clear hA0 hval0
  refine (walk a0 n0 c0 z0 a1 n1 c1 z1 W w0 e0 l0 w1 e1 l1).mono fun e W' ⟨he, bel⟩ => ?_
  subst he
  exact ⟨_, rfl, _, _, _, [], _, [], hW', trodAll_mk1 (shut_bool Try.underlying4 _), (trodAll_cons_mk (Below.trod laidOut (by kernel_rfl) (of_decide_eq_true (by kernel_rfl)) k0 bel lt0) (trodAll_cons_mk (Below.trod laidOut (by kernel_rfl) (of_decide_eq_true (by kernel_rfl)) k1 bel lt1) trodAll_mk0)), rfl, bel.frame _, fun h => by cases h⟩

set_option maxRecDepth 100000 in
theorem lifted (os : Os) (started : os.Started) (H : Type) (enc : TypeId × Value → H) :
    ReturnsInHanded {} Try.checked os 5 .any (Rows.bytesBackSpec.pre6 enc Try.prog Try.f5 Rows.bytesBackRow.domain false) (Rows.bytesBackSpec.post enc Try.prog Try.f5 false true false false) := by
  refine returnsInHanded_of_change (C := Try.checked) own started (by kernel_rfl) Try.func5
    (ChangeSpec.witness6 (enc := enc) (C := Try.checked) false ⟨#[], #[.slice none 0 0, .slice none 0 0], []⟩ 8 (by kernel_rfl) (by kernel_rfl) (by kernel_rfl) (by kernel_rfl)) ?_
  intro W base args ds gs before hval hW _ _
  exact contract H enc W base args ds gs before hval hW

theorem over : Rows.bytesBackRow.holds Try.pinned (OpenSpec.ofChange Rows.bytesBackSpec) :=
  OpenClaim.holds_of_wide 5 Try.f5 rfl rfl rfl rfl rfl rfl rfl ⟨rfl, rfl, rfl, rfl, rfl⟩ rfl rfl rfl rfl rfl (by kernel_rfl) Try.func5 (by kernel_rfl)
    (of_decide_eq_true (by kernel_rfl)) (by unfold Func.isWrapper; first | (rw [if_pos (by decide +kernel)]; kernel_rfl) | (rw [if_neg (by decide +kernel)]; exact ⟨rfl, rfl⟩))
    (fun os started H enc _ => lifted os started H enc)

theorem proved : Rows.BytesBackSaid :=
  over
#print axioms proved
end Go.Proofs.Ytipjjciafcpgfaa.bytesBack

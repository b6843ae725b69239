/- Release of the document, and whether two rows of small numbers are the same: their contracts. -/
import Derived.Test.YtfggkkhehaafcaaRows
import Derived.Test.YtfggkkhehaafcaaPages
import Derived.Test.YtfggkkhehaafcaaView
import Derived.Test.YtfggkkhehaafcaaOwn
import Derived.Test.YtfggkkhehaafcaaReadsP
import Derived.Test.YtfggkkhehaafcaaReadsQ
import Derived.Test.YtfggkkhehaafcaaLeast
import Derived.Test.YtfggkkhehaafcaaLays
import Derived.Test.YtfggkkhehaafcaaTurns
import Derived.Test.YtfggkkhehaafcaaGoods
import Derived.Test.YtfggkkhehaafcaaRefPg
import Derived.Test.YtfggkkhehaafcaaRefRd
import Derived.Test.YtfggkkhehaafcaaRefTk
import Derived.Test.YtfggkkhehaafcaaRefLays
import Derived.Test.YtfggkkhehaafcaaRefTurns
import Derived.Test.YtfggkkhehaafcaaPlain
import Derived.Test.YtfggkkhehaafcaaPlace
import Derived.Test.YtfggkkhehaafcaaRelease
import Derived.WalkKit
import Derived.ProofKit
import Derived.OpenShut
import Derived.Below
import Derived.WalkLawsBesides
import Derived.Deep.QuietTactic
import Derived.BigQuiet
import Derived.RangeFuncNested
import Derived.RangeFuncBox
import Derived.RangeFuncBound
import Derived.RangeFuncCalls
import Derived.RangeFuncLeaves
import Derived.Shelf.Abstract
import Derived.Shelf.RegionOpen
import Derived.OwnWalkIn
import Derived.TacticsInMore
import Derived.LoopNIn
import Derived.LoopIn
namespace Go.Proofs.Ytfggkkhehaafcaa
open Go.ChangeShapes Go.WideShapes Go.ChangeAt Go.RowKit
set_option linter.unusedVariables false

theorem same_bytes (a0 : Option Addr) (n0 c0 : Nat) (zs : List Int) (a1 : Option Addr) (n1 c1 : Nat) (w : World)
    (h0 : Reads .i8 w a0 n0 zs) (h1 : Reads .i8 w a1 n1 zs) :
    Calls Try.prog 13 #[.slice a0 n0 c0, .slice a1 n1 c1] w fun e w' => e = .returned (.bool true) ∧ ∃ m, w' = w.drewN m := by
  obtain rfl : n0 = n1 := h0.len.symm.trans h1.len
  have hm := h0.max
  go_enter Try.func13, Try.ntmps13
  go_wp2
  go_loopw [5] (fun i wr => ∃ k : Nat, k ≤ n0 ∧ i = .int .i64 k ∧ ∃ m, wr = w.drewN m) (fun i _ => n0 - (intOf i).toNat)
  case atStart => exact ⟨0, Nat.zero_le _, rfl, 0, rfl⟩
  case round =>
    obtain ⟨k, hk, rfl, m, hw⟩ := hrel
    by_cases hlt : k < n0
    · obtain ⟨x, rfl⟩ := h0.some_ (by omega)
      obtain ⟨y, rfl⟩ := h1.some_ (by omega)
      have cx : wr.cell? (x.add k) = some (.int .i8 (zs.getD k 0)) := by rw [hw]; exact h0.cell x rfl k hlt
      have cy : wr.cell? (y.add k) = some (.int .i8 (zs.getD k 0)) := by rw [hw]; exact h1.cell y rfl k hlt
      have Hw : Hid (wr = w.drewN m) := hw
      clear hw
      obtain ⟨Z, eZ⟩ : ∃ Z, zs.getD k 0 = Z := ⟨_, rfl⟩
      rw [eZ] at cx cy
      clear eZ
      go_wp2
      go_quiet (fail)
      go_wp2
      go_roundw
      case rel => exact ⟨k + 1, by omega, by go_num, _, by rw [Hw.out, World.drewN_drewN]⟩
      case measure => simp [intOf]; omega
    · have e : k = n0 := by omega
      subst e
      subst hw
      go_wp2
      go_ret
      exact ⟨rfl, _, rfl⟩


set_option maxRecDepth 20000 in
set_option maxHeartbeats 2000000 in
theorem refRelease_call {B m : Nat} {w : World} {b g : Nat} {s : Pl} {r : Nat → Nat} (h : RefAt B w b g s r) (hG : Good m s) (hm : m ≤ 1000000) (a : Option Addr) (L c : Nat) (P : List Int) (hP : ∀ w', Off B TR w w' → Reads .i64 w' a L P) (hL : L ≤ 100000) :
    Calls Try.prog 61 #[.pointer (some ⟨b, 0, none⟩), .slice a L c] w fun e w' => e = .returned (.int .i64 (relE s P)) ∧ (∃ r', RefAt B w' b g (relS s P) r') ∧ Off B TR w w' := by
  have hP0 := hP w (Off.refl _ _ _)
  have hlen := hP0.len
  have HH := hidden_ h
  have HP := hidden_ (fun w' (o : Off B TR w w') => (hP w' o).cell)
  have HX := hidden_ hP0.some_
  have HG := hidden_ hG
  have n1 := hG.n1
  obtain ⟨RE, eRE⟩ : ∃ RE, relE s P = RE := ⟨_, rfl⟩
  obtain ⟨RS, eRS⟩ : ∃ RS, relS s P = RS := ⟨_, rfl⟩
  have HRR := hidden_ (And.intro eRE eRS)
  rw [eRE, eRS]
  clear h hG hP hP0 eRE eRS
  go_enter Try.func61, Try.ntmps61
  go_wp2
  go_loopw [5] (fun i wr => ∃ k : Nat, k ≤ L ∧ i = .int .i64 k ∧ (∀ j, j < k → (P.count (P.getD j 0) : Int) ≤ owZ s (P.getD j 0)) ∧ ∃ m, wr = w.drewN m) (fun i _ => L - (intOf i).toNat)
  case atStart => exact ⟨0, Nat.zero_le _, rfl, fun j hj => by omega, 0, rfl⟩
  case round =>
    obtain ⟨k, hk, rfl, hok, m1, hw1⟩ := hrel
    by_cases hlt : k < L
    · obtain ⟨x, rfl⟩ := HX.out (by omega)
      have HK := hidden_ (And.intro hok hw1)
      obtain ⟨Z, eZ⟩ : ∃ Z, P.getD k 0 = Z := ⟨_, rfl⟩
      have HZ := hidden_ eZ
      have hk' : (k : Int) < (L : Int) := by omega
      clear hok hw1 eZ
      go_wp2
      go_loopw [6, 7] (fun n i wr' => ∃ q : Nat, q ≤ L ∧ i = .int .i64 q ∧ n = .int .i64 ((P.take q).count Z : Nat) ∧ ∃ m, wr' = w.drewN m) (fun _ i _ => L - (intOf i).toNat)
      case atStart => exact ⟨0, Nat.zero_le _, rfl, by simp, m1, HK.out.2⟩
      case round =>
        obtain ⟨q, hq, rfl, rfl, m2, hw2⟩ := hrel
        by_cases hlt2 : q < L
        · have cq : wr.drew.cell? (x.add q) = some (.int .i64 (P.getD q 0)) := by rw [hw2]; exact HP.out w (Off.refl _ _ _) x rfl q hlt2
          have ck : wr.drew.cell? (x.add k) = some (.int .i64 Z) := by rw [hw2, ← HZ.out]; exact HP.out w (Off.refl _ _ _) x rfl k hlt
          have hcl := count_le_len (P.take q) Z
          have htk : (P.take q).length = q := by rw [List.length_take]; omega
          have hsn := count_snoc (P.take q) (P.getD q 0) Z
          rw [← take_snoc P q (by omega)] at hsn
          obtain ⟨Y, eY⟩ : ∃ Y, P.getD q 0 = Y := ⟨_, rfl⟩
          rw [eY] at cq hsn
          obtain ⟨C, eC⟩ : ∃ C, (P.take q).count Z = C := ⟨_, rfl⟩
          rw [eC] at hcl hsn ⊢
          have hC : C ≤ 100000 := by omega
          have HW := hidden_ hw2
          have hq' : (q : Int) < (L : Int) := by omega
          have HS := hidden_ hsn
          clear hw2 eY eC htk hcl hsn
          by_cases hYZ : Y = Z
          · subst hYZ
            go_wp2
            go_region
            go_wp2
            go_roundw
            case rel => exact ⟨q + 1, by omega, by go_num, by rw [HS.out]; simp, m2 + 1, by rw [HW.out]; rfl⟩
            case measure => simp [intOf]; omega
          · have hYZ' : (Y == Z) = false := by simp [hYZ]
            go_wp2
            go_region
            go_wp2
            go_roundw
            case rel => exact ⟨q + 1, by omega, by go_num, by rw [HS.out, if_neg hYZ]; simp, m2 + 1, by rw [HW.out]; rfl⟩
            case measure => simp [intOf]; omega
        · have e : q = L := by omega
          subst e
          rw [← hlen, List.take_length] 
          have hcl := count_le_len P Z
          have kO := refOwners_call (HH.out.drewN m2) n1 HG.out.ow0 Z
          have ck : wr.cell? (x.add k) = some (.int .i64 Z) := by rw [hw2, ← HZ.out]; exact HP.out w (Off.refl _ _ _) x rfl k hlt
          rw [← hw2] at kO
          have HB : Hid ((P.count Z : Int) > owZ s Z → RE = 25 ∧ RS = s) := fun q => by
            have hb : relB s P = false := by
              cases e : relB s P with
              | false => rfl
              | true =>
                exfalso
                have := (relB_iff s P).1 e Z (by rw [← HZ.out]; simp [List.getD, show k < P.length by omega])
                omega
            rw [← HRR.out.1, ← HRR.out.2]
            unfold relE relS
            rw [hb]
            exact ⟨rfl, rfl⟩
          have HN : Hid ((P.count Z : Int) ≤ owZ s Z → ∀ j, j < k + 1 → (P.count (P.getD j 0) : Int) ≤ owZ s (P.getD j 0)) := fun q j hj => by
            by_cases e : j = k
            · subst e; rw [HZ.out]; exact q
            · exact HK.out.1 j (by omega)
          obtain ⟨C, eC⟩ : ∃ C, P.count Z = C := ⟨_, rfl⟩
          rw [eC] at hcl HB HN ⊢
          obtain ⟨O, eO⟩ : ∃ O, owZ s Z = O := ⟨_, rfl⟩
          rw [eO] at kO HB HN
          have HW := hidden_ hw2
          clear eC eO hw2
          by_cases hc : O < (C : Int)
          · obtain ⟨rfl, rfl⟩ := HB.out hc
            go_wp2_with (first | (go_at_call 52; refine kO.mono ?_; rintro e w' ⟨rfl, h1⟩; obtain rfl := h1.symm))
            go_ret
            exact ⟨rfl, ⟨_, by rw [HW.out]; exact HH.out.drewN _⟩, by rw [HW.out]; exact (Off.refl _ _ _).drewN _⟩
          · go_wp2_with (first | (go_at_call 52; refine kO.mono ?_; rintro e w' ⟨rfl, h1⟩; obtain rfl := h1.symm))
            go_roundw
            case rel => exact ⟨k + 1, by omega, by go_num, HN.out (by omega), _, HW.out⟩
            case measure => simp [intOf]; omega
    · have e : k = L := by omega
      subst e
      have hb : relB s P = true := by
        rw [relB_iff]
        intro z hz
        obtain ⟨j, hj, e⟩ := List.getElem_of_mem hz
        have := hok j (by omega)
        rwa [show P.getD j 0 = z by simp [List.getD, hj, e]] at this
      have e1 : RE = 0 := by rw [← HRR.out.1]; unfold relE; rw [if_pos hb]
      have e2 : RS = P.foldl drS s := by rw [← HRR.out.2]; unfold relS; rw [if_pos hb]
      subst e1 e2
      have HW := hidden_ hw1
      clear hok hw1 hb
      go_wp2
      go_loopw [8] (fun i wr' => ∃ q : Nat, q ≤ k ∧ i = .int .i64 q ∧ (∃ r', RefAt B wr' b g ((P.take q).foldl drS s) r') ∧ Off B TR w wr') (fun i _ => k - (intOf i).toNat)
      case atStart => exact ⟨0, Nat.zero_le _, rfl, ⟨_, by rw [HW.out]; exact HH.out.drewN _⟩, by rw [HW.out]; exact (Off.refl _ _ _).drewN _⟩
      case round =>
        clear HW
        obtain ⟨q, hq, rfl, ⟨r', hp⟩, ho⟩ := hrel
        by_cases hlt2 : q < k
        · obtain ⟨x, rfl⟩ := HX.out (by omega)
          have cx := HP.out wr ho x rfl q hlt2
          have kD := refDrop_call hp (Good.drops (P.take q) HG.out) hm (P.getD q 0)
          rw [← drops_snoc s P q (by omega)] at kD
          obtain ⟨Z, eZ⟩ : ∃ Z, P.getD q 0 = Z := ⟨_, rfl⟩
          rw [eZ] at cx kD
          obtain ⟨E, eE⟩ : ∃ E, shE ((P.take q).foldl drS s) Z = E := ⟨_, rfl⟩
          rw [eE] at kD
          obtain ⟨S1, eS1⟩ : ∃ S1, (P.take (q + 1)).foldl drS s = S1 := ⟨_, rfl⟩
          rw [eS1] at kD
          have HS := hidden_ eS1
          have HO := hidden_ ho
          have hq' : (q : Int) < (k : Int) := by omega
          clear eZ eE hp ho eS1
          go_wp2_with (first | (go_at_call 38; refine kD.mono ?_; rintro e W2 ⟨rfl, hp2, ho2⟩; have H2 := hidden_ (And.intro hp2 ho2); clear hp2 ho2))
          go_roundw
          case rel => exact ⟨q + 1, by omega, by go_num, ⟨_, by rw [HS.out]; exact H2.out.1⟩, HO.out.trans H2.out.2⟩
          case measure => simp [intOf]; omega
        · have e : q = k := by omega
          subst e
          rw [← hlen, List.take_length] at hp
          have HR := hidden_ (And.intro hp ho)
          clear hp ho
          go_wp2
          go_ret
          exact ⟨rfl, ⟨_, HR.out.1⟩, HR.out.2⟩

end Go.Proofs.Ytfggkkhehaafcaa

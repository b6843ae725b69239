/- What a reader's Weights give back, the program's: the contract of the call. -/
import Derived.Test.YtbmlafgolmmekabRows
import Derived.Test.YtbmlafgolmmekabView
import Derived.Test.YtbmlafgolmmekabOwn
import Derived.Test.YtbmlafgolmmekabTexts
import Derived.Test.YtbmlafgolmmekabSums
import Derived.Test.YtbmlafgolmmekabSeals
import Derived.Test.YtbmlafgolmmekabOpens
import Derived.Test.YtbmlafgolmmekabReader
import Derived.Test.YtbmlafgolmmekabTwos
import Derived.WalkKit
import Derived.ProofKit
import Derived.OpenShut
import Derived.Below
import Derived.WalkLawsBesides
import Derived.Deep.QuietTactic
import Derived.BigQuiet
namespace Go.Proofs.Ytbmlafgolmmekab
open Go.ChangeShapes Go.WideShapes Go.ChangeAt Go.RowKit
set_option linter.unusedVariables false

/-- a byte as a weight -/
def i8 (x : Int) : Int := (x + 128) % 256 - 128
def i8s (s : ByteArray) (n : Nat) : List Int := (List.range n).map fun j => i8 (byteZ s j)

theorem i8s_length (s : ByteArray) (n : Nat) : (i8s s n).length = n := by simp [i8s]
theorem i8s_at (s : ByteArray) (n j : Nat) (h : j < n) : (i8s s n).getD j 0 = i8 (byteZ s j) := by simp [i8s, List.getD, h]
theorem wf_i8 (x : Int) : (Lit.int .i8 (i8 x)).wf = true := by
  have : -128 ≤ i8 x ∧ i8 x ≤ 127 := by unfold i8; omega
  simpa [Lit.wf, IntKind.min, IntKind.max, IntKind.signed, IntKind.bits] using this
theorem wrap_i8 (x : Int) : IntKind.i8.wrap x = i8 x := by
  unfold IntKind.wrap i8
  simp [IntKind.signed, IntKind.bits]
  omega
theorem i8_small {x : Int} (h0 : 0 ≤ x) (h1 : x < 128) : i8 x = x := by unfold i8; omega

variable {t : TypeId} {w w' : World} {b : Nat} {s : ByteArray} {e : Int}

theorem weights_same (n V : Int) (A : ByteArray) (P1 P3 : World → Prop) (hv : (V != n) = false) (hA : A.size ≤ 65535)
    (c19 : Calls Try.prog 38 #[.pointer (some ⟨b, 0, none⟩)] w fun r w' => r = .returned (.int .i64 V) ∧ P1 w')
    (c27 : ∀ w1, P1 w1 → Calls Try.prog 45 #[.pointer (some ⟨b, 0, none⟩), .int .i64 n] w1 fun r w' => (∃ B, r = .returned (.tuple #[.string A, .bool B])) ∧ P3 w') :
    Calls Try.prog 39 #[.pointer (some ⟨b, 0, none⟩), .int .i64 n] w fun r w' => ∃ w3 a c, r = .returned (.slice a A.size c) ∧ P3 w3 ∧ Below w3.heap.size w3 w' ∧ Reads .i8 w' a A.size (i8s A A.size) ∧ (∀ x, a = some x → w3.heap.size ≤ x.block) ∧ A.size ≤ c ∧ ∃ x, a = some x := by
  obtain ⟨i0, hi, hz0, hz1, hz2⟩ := info_parts info41
  go_enter Try.func39, Try.ntmps39
  go_wp2_with (first
    | (go_at_call 38; refine c19.mono ?_; rintro e w1 ⟨rfl, p1⟩)
    | (go_at_call 45; refine (c27 _ p1).mono ?_; rintro e w3 ⟨⟨B, rfl⟩, p3⟩)
    | (at_make; refine wpList_make_full _ rfl (.tmp 24) (.tmp 24) 42 rfl w3.heap.size 41 i0 (.int .i8 0) 1 Try.underlying42 hi hz0 hz1 .i64 .i64 _ _ A.size rfl rfl rfl rfl (by rw [hz2]; omega) (by unfold maxLen; omega) (Nat.le_refl _) ?_; intro w4 hown hgrow))
  have hbel : Below w3.heap.size w3 w4 := (Below.refl _ _).grown hgrow (Nat.le_refl _) (fun k h => by cases h)
  clear c27 c19 p1 hgrow
  go_wp2
  go_loopw [28] (fun i wr => ∃ k : Nat, k ≤ A.size ∧ i = .int .i64 k ∧ Below w3.heap.size w3 wr ∧ ∃ cs, wr.ownsRow w3.heap.size 41 1 (.slice (some ⟨w3.heap.size, 0, none⟩) A.size A.size) A.size cs ∧ ∀ j, j < k → cs[j]? = some (.int .i8 (i8 (byteZ A j)))) (fun i _ => A.size - (intOf i).toNat)
  case atStart => exact ⟨0, Nat.zero_le _, rfl, hbel, _, hown, fun j hj => by omega⟩
  case round =>
    obtain ⟨k, hk, rfl, hbr, cs, ho, hcs⟩ := hrel
    by_cases hlt : k < A.size
    · have hlen := own_length ho
      have cell : wr.cell? ⟨w3.heap.size, k, none⟩ = cs[k]? := ho.cellAt k (by omega)
      obtain ⟨u, hu⟩ : ∃ u, cs[k]? = some u := ⟨cs[k], by simp [hlen, hlt]⟩
      rw [hu] at cell
      have froz := ho.frozenAt k
      have st := fun v => ho.stored k v
      have step := fun v (h : v = Value.int .i8 (i8 (byteZ A k))) => set_step (F := fun j => Value.int .i8 (i8 (byteZ A j))) hlen hlt h hcs
      have eB := byteZ_at A k hlt
      have lB := byteZ_lt A k
      obtain ⟨X, eX⟩ : ∃ X, byteZ A k = X := ⟨_, rfl⟩
      rw [eX] at eB lB step
      have hw8 := wrap_i8 (X : Int)
      have R : Hid (Below w3.heap.size w3 (wr.setCell ⟨w3.heap.size, k, none⟩ (.int .i8 (i8 X))) ∧ ∃ cs', (wr.setCell ⟨w3.heap.size, k, none⟩ (.int .i8 (i8 X))).ownsRow w3.heap.size 41 1 (.slice (some ⟨w3.heap.size, 0, none⟩) A.size A.size) A.size cs' ∧ ∀ j, j < k + 1 → cs'[j]? = some (.int .i8 (i8 (byteZ A j)))) :=
        ⟨hbr.setCell (Nat.le_refl _) _, _, (st _).1, step _ rfl⟩
      clear eX step st hcs ho hu hlen hbr
      go_wp2
      go_roundw
      case rel => exact ⟨k + 1, by omega, by go_num, R.out⟩
      case measure => simp [intOf]; omega
    · have e : A.size = k := by omega
      subst e
      have fin := own_reads_at (k := .i8) (zs := i8s A A.size) ho (i8s_length _ _) (fun z hz => by obtain ⟨y, _, rfl⟩ := List.mem_map.1 hz; exact wf_i8 _) (fun j hj => by rw [hcs j hj, i8s_at _ _ _ hj])
      clear hcs ho
      go_wp2
      go_ret
      exact ⟨w3, _, _, rfl, p3, hbr, fin, (fun x hx => by obtain rfl := Option.some.inj hx; exact Nat.le_refl _), Nat.le_refl _, _, rfl⟩

theorem weights_other (n V : Int) (A : ByteArray) (P1 P2 P3 : World → Prop) (hv : (V != n) = true) (hA : A.size ≤ 65535)
    (c19 : Calls Try.prog 38 #[.pointer (some ⟨b, 0, none⟩)] w fun r w' => r = .returned (.int .i64 V) ∧ P1 w')
    (c28 : ∀ w1, P1 w1 → Calls Try.prog 46 #[.pointer (some ⟨b, 1, none⟩), .int .i64 21] w1 fun r w' => r = .returned (.tuple #[]) ∧ P2 w')
    (c27 : ∀ w1, P2 w1 → Calls Try.prog 45 #[.pointer (some ⟨b, 0, none⟩), .int .i64 n] w1 fun r w' => (∃ B, r = .returned (.tuple #[.string A, .bool B])) ∧ P3 w') :
    Calls Try.prog 39 #[.pointer (some ⟨b, 0, none⟩), .int .i64 n] w fun r w' => ∃ w3 a c, r = .returned (.slice a A.size c) ∧ P3 w3 ∧ Below w3.heap.size w3 w' ∧ Reads .i8 w' a A.size (i8s A A.size) ∧ (∀ x, a = some x → w3.heap.size ≤ x.block) ∧ A.size ≤ c ∧ ∃ x, a = some x := by
  obtain ⟨i0, hi, hz0, hz1, hz2⟩ := info_parts info41
  go_enter Try.func39, Try.ntmps39
  go_wp2_with (first
    | (go_at_call 38; refine c19.mono ?_; rintro e w1 ⟨rfl, p1⟩)
    | (go_at_call 46; refine (c28 _ p1).mono ?_; rintro e w2 ⟨rfl, p2⟩)
    | (go_at_call 45; refine (c27 _ p2).mono ?_; rintro e w3 ⟨⟨B, rfl⟩, p3⟩)
    | (at_make; refine wpList_make_full _ rfl (.tmp 24) (.tmp 24) 42 rfl w3.heap.size 41 i0 (.int .i8 0) 1 Try.underlying42 hi hz0 hz1 .i64 .i64 _ _ A.size rfl rfl rfl rfl (by rw [hz2]; omega) (by unfold maxLen; omega) (Nat.le_refl _) ?_; intro w4 hown hgrow))
  have hbel : Below w3.heap.size w3 w4 := (Below.refl _ _).grown hgrow (Nat.le_refl _) (fun k h => by cases h)
  clear c27 c28 c19 p1 p2 hgrow
  go_wp2
  go_loopw [28] (fun i wr => ∃ k : Nat, k ≤ A.size ∧ i = .int .i64 k ∧ Below w3.heap.size w3 wr ∧ ∃ cs, wr.ownsRow w3.heap.size 41 1 (.slice (some ⟨w3.heap.size, 0, none⟩) A.size A.size) A.size cs ∧ ∀ j, j < k → cs[j]? = some (.int .i8 (i8 (byteZ A j)))) (fun i _ => A.size - (intOf i).toNat)
  case atStart => exact ⟨0, Nat.zero_le _, rfl, hbel, _, hown, fun j hj => by omega⟩
  case round =>
    obtain ⟨k, hk, rfl, hbr, cs, ho, hcs⟩ := hrel
    by_cases hlt : k < A.size
    · have hlen := own_length ho
      have cell : wr.cell? ⟨w3.heap.size, k, none⟩ = cs[k]? := ho.cellAt k (by omega)
      obtain ⟨u, hu⟩ : ∃ u, cs[k]? = some u := ⟨cs[k], by simp [hlen, hlt]⟩
      rw [hu] at cell
      have froz := ho.frozenAt k
      have st := fun v => ho.stored k v
      have step := fun v (h : v = Value.int .i8 (i8 (byteZ A k))) => set_step (F := fun j => Value.int .i8 (i8 (byteZ A j))) hlen hlt h hcs
      have eB := byteZ_at A k hlt
      have lB := byteZ_lt A k
      obtain ⟨X, eX⟩ : ∃ X, byteZ A k = X := ⟨_, rfl⟩
      rw [eX] at eB lB step
      have hw8 := wrap_i8 (X : Int)
      have R : Hid (Below w3.heap.size w3 (wr.setCell ⟨w3.heap.size, k, none⟩ (.int .i8 (i8 X))) ∧ ∃ cs', (wr.setCell ⟨w3.heap.size, k, none⟩ (.int .i8 (i8 X))).ownsRow w3.heap.size 41 1 (.slice (some ⟨w3.heap.size, 0, none⟩) A.size A.size) A.size cs' ∧ ∀ j, j < k + 1 → cs'[j]? = some (.int .i8 (i8 (byteZ A j)))) :=
        ⟨hbr.setCell (Nat.le_refl _) _, _, (st _).1, step _ rfl⟩
      clear eX step st hcs ho hu hlen hbr
      go_wp2
      go_roundw
      case rel => exact ⟨k + 1, by omega, by go_num, R.out⟩
      case measure => simp [intOf]; omega
    · have e : A.size = k := by omega
      subst e
      have fin := own_reads_at (k := .i8) (zs := i8s A A.size) ho (i8s_length _ _) (fun z hz => by obtain ⟨y, _, rfl⟩ := List.mem_map.1 hz; exact wf_i8 _) (fun j hj => by rw [hcs j hj, i8s_at _ _ _ hj])
      clear hcs ho
      go_wp2
      go_ret
      exact ⟨w3, _, _, rfl, p3, hbr, fin, (fun x hx => by obtain rfl := Option.some.inj hx; exact Nat.le_refl _), Nat.le_refl _, _, rfl⟩

/-- what Weights answers, what is left behind it, and the error -/
def wtE (s : ByteArray) (e n : Int) : Int := if twoE s e ≠ 0 then twoE s e else if twoV s e ≠ n then 21 else if ((twoS s e).size : Int) < n then 22 else 0
def wtS (s : ByteArray) (e n : Int) : ByteArray := if wtE s e n = 0 then (twoS s e).extract n.toNat (twoS s e).size else twoS s e
def wtV (s : ByteArray) (e n : Int) : List Int := if wtE s e n = 0 then i8s (twoS s e) n.toNat else []

theorem twoV_bounds (s : ByteArray) (e : Int) : 0 ≤ twoV s e ∧ twoV s e ≤ 65535 := by
  have := byteZ_lt s 0
  have := byteZ_lt s 1
  unfold twoV
  split <;> omega

theorem i8s_extract (s : ByteArray) (n : Nat) (hn : n ≤ s.size) : i8s (s.extract 0 n) n = i8s s n := by
  unfold i8s
  apply List.map_congr_left
  intro j hj
  rw [byteZ_extract s n j hn (by simpa using hj)]

theorem only_then {b : Nat} {w w3 w' : World} (h : Only b w w3) (k : Below w3.heap.size w3 w') : Only b w w' := h.trans (Only.of_below k)

theorem weights_reader (h : Rd 81 w b s e) (n : Int) : Calls Try.prog 39 #[.pointer (some ⟨b, 0, none⟩), .int .i64 n] w fun r w' =>
    (∃ a m c, r = .returned (.slice a m c) ∧ Reads .i8 w' a m (wtV s e n) ∧ (∀ x, a = some x → w.heap.size ≤ x.block) ∧ m ≤ c ∧ ∃ x, a = some x) ∧ Rd 81 w' b (wtS s e n) (wtE s e n) ∧ Only b w w' := by
  have hE : wtE s e n = if twoE s e ≠ 0 then twoE s e else if twoV s e ≠ n then 21 else if ((twoS s e).size : Int) < n then 22 else 0 := rfl
  have hS : wtS s e n = if wtE s e n = 0 then (twoS s e).extract n.toNat (twoS s e).size else twoS s e := rfl
  have hV : wtV s e n = if wtE s e n = 0 then i8s (twoS s e) n.toNat else [] := rfl
  have c19 := two_reader h
  have bV := twoV_bounds s e
  obtain ⟨V, eV⟩ : ∃ V, twoV s e = V := ⟨_, rfl⟩
  obtain ⟨S, eS⟩ : ∃ S, twoS s e = S := ⟨_, rfl⟩
  obtain ⟨E, eE⟩ : ∃ E, twoE s e = E := ⟨_, rfl⟩
  rw [eV, eS, eE] at c19 hE
  rw [eV] at bV
  rw [eS] at hS hV
  by_cases h1 : E = 0
  · subst h1
    by_cases h2 : V = n
    · subst h2
      by_cases h3 : (S.size : Int) < V
      · have eq : wtE s e V = 22 := by rw [hE]; simp [h3]
        rw [eq, if_neg (by decide)] at hS hV
        rw [eq, hS, hV]
        refine (weights_same V V ⟨#[]⟩ (fun w' => Rd 81 w' b S 0 ∧ Only b w w') (fun w' => Rd 81 w' b S 22 ∧ Only b w w') (by simp) (by decide) c19 (fun w1 ⟨r1, o1⟩ => (take_few r1 V h3).mono fun r w' ⟨hr, hw⟩ => ⟨⟨_, hr⟩, hw ▸ r1.set1 22, o1.trans (hw ▸ Only.set _ _ _ _)⟩)).mono ?_
        rintro r w' ⟨w3, a, c, hr, ⟨r3, o3⟩, hb, hre, hbk, hcp, hsm⟩
        exact ⟨⟨a, _, c, hr, hre, (fun x hx => Nat.le_trans o3.size (hbk x hx)), hcp, hsm⟩, r3.kept hb, only_then o3 hb⟩
      · have eq : wtE s e V = 0 := by rw [hE]; simp [h3]
        rw [eq, if_pos rfl] at hS hV
        rw [eq, hS, hV]
        obtain ⟨k, rfl⟩ : ∃ k : Nat, V = k := ⟨V.toNat, by omega⟩
        have hk : k ≤ S.size := by omega
        have hsz : (S.extract 0 k).size = k := by rw [ByteArray.size_extract]; omega
        refine (weights_same k k (S.extract 0 k) (fun w' => Rd 81 w' b S 0 ∧ Only b w w') (fun w' => Rd 81 w' b (S.extract k S.size) 0 ∧ Only b w w') (by simp) (by rw [hsz]; omega) c19 (fun w1 ⟨r1, o1⟩ => (take_ok r1 k hk).mono fun r w' ⟨hr, hw⟩ => ⟨⟨_, hr⟩, hw ▸ r1.set0 _, o1.trans (hw ▸ Only.set _ _ _ _)⟩)).mono ?_
        rintro r w' ⟨w3, a, c, hr, ⟨r3, o3⟩, hb, hre, hbk, hcp, hsm⟩
        rw [hsz, i8s_extract S k hk] at hre
        exact ⟨⟨a, _, c, hr, by rw [hsz]; exact hre, (fun x hx => Nat.le_trans o3.size (hbk x hx)), hcp, hsm⟩, r3.kept hb, only_then o3 hb⟩
    · have eq : wtE s e n = 21 := by rw [hE]; simp [h2]
      rw [eq, if_neg (by decide)] at hS hV
      rw [eq, hS, hV]
      refine (weights_other n V ⟨#[]⟩ (fun w' => Rd 81 w' b S 0 ∧ Only b w w') (fun w' => Rd 81 w' b S 21 ∧ Only b w w') (fun w' => Rd 81 w' b S 21 ∧ Only b w w') (by simpa using h2) (by decide) c19
        (fun w1 ⟨r1, o1⟩ => (fail_no r1 21).mono fun r w' ⟨hr, hw⟩ => ⟨hr, hw ▸ r1.set1 21, o1.trans (hw ▸ Only.set _ _ _ _)⟩)
        (fun w1 ⟨r1, o1⟩ => (take_bad r1 (by decide) n).mono fun r w' ⟨hr, hw⟩ => ⟨⟨_, hr⟩, hw ▸ r1, hw ▸ o1⟩)).mono ?_
      rintro r w' ⟨w3, a, c, hr, ⟨r3, o3⟩, hb, hre, hbk, hcp, hsm⟩
      exact ⟨⟨a, _, c, hr, hre, (fun x hx => Nat.le_trans o3.size (hbk x hx)), hcp, hsm⟩, r3.kept hb, only_then o3 hb⟩
  · have eq : wtE s e n = E := by rw [hE, if_pos h1]
    rw [eq, if_neg h1] at hS hV
    rw [eq, hS, hV]
    by_cases h2 : V = n
    · refine (weights_same n V ⟨#[]⟩ (fun w' => Rd 81 w' b S E ∧ Only b w w') (fun w' => Rd 81 w' b S E ∧ Only b w w') (by simpa using h2) (by decide) c19 (fun w1 ⟨r1, o1⟩ => (take_bad r1 h1 n).mono fun r w' ⟨hr, hw⟩ => ⟨⟨_, hr⟩, hw ▸ r1, hw ▸ o1⟩)).mono ?_
      rintro r w' ⟨w3, a, c, hr, ⟨r3, o3⟩, hb, hre, hbk, hcp, hsm⟩
      exact ⟨⟨a, _, c, hr, hre, (fun x hx => Nat.le_trans o3.size (hbk x hx)), hcp, hsm⟩, r3.kept hb, only_then o3 hb⟩
    · refine (weights_other n V ⟨#[]⟩ (fun w' => Rd 81 w' b S E ∧ Only b w w') (fun w' => Rd 81 w' b S E ∧ Only b w w') (fun w' => Rd 81 w' b S E ∧ Only b w w') (by simpa using h2) (by decide) c19
        (fun w1 ⟨r1, o1⟩ => (fail_yes r1 h1 21).mono fun r w' ⟨hr, hw⟩ => ⟨hr, hw ▸ r1, hw ▸ o1⟩)
        (fun w1 ⟨r1, o1⟩ => (take_bad r1 h1 n).mono fun r w' ⟨hr, hw⟩ => ⟨⟨_, hr⟩, hw ▸ r1, hw ▸ o1⟩)).mono ?_
      rintro r w' ⟨w3, a, c, hr, ⟨r3, o3⟩, hb, hre, hbk, hcp, hsm⟩
      exact ⟨⟨a, _, c, hr, hre, (fun x hx => Nat.le_trans o3.size (hbk x hx)), hcp, hsm⟩, r3.kept hb, only_then o3 hb⟩

theorem twoS_size (s : ByteArray) (e : Int) : (twoS s e).size ≤ s.size := by
  unfold twoS
  split
  · exact Nat.le_refl _
  · rw [ByteArray.size_extract]; omega
theorem wtS_size (s : ByteArray) (e n : Int) : (wtS s e n).size ≤ s.size := by
  have := twoS_size s e
  unfold wtS
  split
  · rw [ByteArray.size_extract]; omega
  · exact this

end Go.Proofs.Ytbmlafgolmmekab

/- What the document's reader's Weights give back, and whether two rows of weights are the same: contracts of the calls. -/
import Derived.Test.YtbmlafgolmmekaaRows
import Derived.Test.YtbmlafgolmmekaaView
import Derived.Test.YtbmlafgolmmekaaOwn
import Derived.Test.YtbmlafgolmmekaaTexts
import Derived.Test.YtbmlafgolmmekaaSums
import Derived.Test.YtbmlafgolmmekaaSeals
import Derived.Test.YtbmlafgolmmekaaOpens
import Derived.Test.YtbmlafgolmmekaaReader
import Derived.Test.YtbmlafgolmmekaaTwos
import Derived.Test.YtbmlafgolmmekaaRdWts
import Derived.WalkKit
import Derived.ProofKit
import Derived.OpenShut
import Derived.Below
import Derived.WalkLawsBesides
import Derived.Deep.QuietTactic
import Derived.BigQuiet
namespace Go.Proofs.Ytbmlafgolmmekaa
open Go.ChangeShapes Go.WideShapes Go.ChangeAt Go.RowKit
set_option linter.unusedVariables false

theorem same_call (a0 : Option Addr) (n0 c0 : Nat) (zs : List Int) (a1 : Option Addr) (n1 c1 : Nat) (w : World)
    (h0 : Reads .i8 w a0 n0 zs) (h1 : Reads .i8 w a1 n1 zs) :
    Calls Try.prog 14 #[.slice a0 n0 c0, .slice a1 n1 c1] w fun e w' => e = .returned (.bool true) ∧ ∃ m, w' = w.drewN m := by
  obtain rfl : n0 = n1 := h0.len.symm.trans h1.len
  have hm := h0.max
  go_enter Try.func14, Try.ntmps14
  go_wp2
  go_loopw [5] (fun i wr => ∃ k : Nat, k ≤ n0 ∧ i = .int .i64 k ∧ ∃ m, wr = w.drewN m) (fun i _ => n0 - (intOf i).toNat)
  case atStart => exact ⟨0, Nat.zero_le _, rfl, 0, rfl⟩
  case round =>
    obtain ⟨k, hk, rfl, m, hw⟩ := hrel
    by_cases hlt : k < n0
    · obtain ⟨x, rfl⟩ := h0.some_ (by omega)
      obtain ⟨y, rfl⟩ := h1.some_ (by omega)
      have cx : wr.cell? (x.add k) = some (.int .i8 (zs.getD k 0)) := by rw [hw]; exact h0.cell x rfl k hlt
      have cy : wr.cell? (y.add k) = some (.int .i8 (zs.getD k 0)) := by rw [hw]; exact h1.cell y rfl k hlt
      have Hw : Hid (wr = w.drewN m) := hw
      clear hw
      obtain ⟨Z, eZ⟩ : ∃ Z, zs.getD k 0 = Z := ⟨_, rfl⟩
      rw [eZ] at cx cy
      clear eZ
      go_wp2
      go_quiet (fail)
      go_wp2
      go_roundw
      case rel => exact ⟨k + 1, by omega, by go_num, _, by rw [Hw.out, World.drewN_drewN]⟩
      case measure => simp [intOf]; omega
    · have e : k = n0 := by omega
      subst e
      subst hw
      go_wp2
      go_ret
      exact ⟨rfl, _, rfl⟩

variable {t : TypeId} {w w' : World} {b : Nat} {s : ByteArray} {e : Int}

theorem refWts_bad (n V E : Int) (S : ByteArray) (hE : E ≠ 0)
    (c20 : Calls Try.prog 42 #[.pointer (some ⟨b, 0, none⟩)] w fun r w' => r = .returned (.int .i64 V) ∧ Rd 69 w' b S E ∧ Only b w w') :
    Calls Try.prog 43 #[.pointer (some ⟨b, 0, none⟩), .int .i64 n] w fun r w' => r = .returned (.slice none 0 0) ∧ Rd 69 w' b S E ∧ Only b w w' := by
  have e1 : (E != 0) = true := by simpa using hE
  go_enter Try.func43, Try.ntmps43
  go_wp2_with (go_at_call 42; refine c20.mono ?_; rintro e w1 ⟨rfl, r1, o1⟩; have c1 := r1.c1)
  go_ret
  exact ⟨rfl, r1, o1⟩

theorem refWts_shape (n V : Int) (S : ByteArray) (hv : V ≠ n)
    (c20 : Calls Try.prog 42 #[.pointer (some ⟨b, 0, none⟩)] w fun r w' => r = .returned (.int .i64 V) ∧ Rd 69 w' b S 0 ∧ Only b w w') :
    Calls Try.prog 43 #[.pointer (some ⟨b, 0, none⟩), .int .i64 n] w fun r w' => r = .returned (.slice none 0 0) ∧ Rd 69 w' b S 21 ∧ Only b w w' := by
  have e1 : (V != n) = true := by simpa using hv
  go_enter Try.func43, Try.ntmps43
  go_wp2_with (go_at_call 42; refine c20.mono ?_; rintro e w1 ⟨rfl, r1, o1⟩; have c1 := r1.c1; have f1 := r1.f1)
  go_ret
  exact ⟨rfl, r1.set1 21, o1.trans (Only.set _ _ _ _)⟩

theorem refWts_short (V : Int) (S : ByteArray) (hs : (S.size : Int) < V)
    (c20 : Calls Try.prog 42 #[.pointer (some ⟨b, 0, none⟩)] w fun r w' => r = .returned (.int .i64 V) ∧ Rd 69 w' b S 0 ∧ Only b w w') :
    Calls Try.prog 43 #[.pointer (some ⟨b, 0, none⟩), .int .i64 V] w fun r w' => r = .returned (.slice none 0 0) ∧ Rd 69 w' b S 22 ∧ Only b w w' := by
  go_enter Try.func43, Try.ntmps43
  go_wp2_with (go_at_call 42; refine c20.mono ?_; rintro e w1 ⟨rfl, r1, o1⟩; have c0 := r1.c0; have c1 := r1.c1; have f1 := r1.f1)
  go_ret
  exact ⟨rfl, r1.set1 22, o1.trans (Only.set _ _ _ _)⟩

theorem reads_below_set {k : IntKind} {wr : World} {a : Option Addr} {n b o : Nat} {zs : List Int} {v : Value} (h : Reads k wr a n zs) (hb : ∀ x, a = some x → b ≠ x.block) : Reads k (wr.setCell ⟨b, o, none⟩ v) a n zs :=
  h.other (Only.set b o wr v) (fun x hx _ e => hb x hx e.symm)

theorem refWts_ok (n : Nat) (S : ByteArray) (hn : n ≤ S.size) (hm : n ≤ 65535)
    (c20 : Calls Try.prog 42 #[.pointer (some ⟨b, 0, none⟩)] w fun r w' => r = .returned (.int .i64 (n : Int)) ∧ Rd 69 w' b S 0 ∧ Only b w w') :
    Calls Try.prog 43 #[.pointer (some ⟨b, 0, none⟩), .int .i64 (n : Int)] w fun r w' => (∃ a c, r = .returned (.slice a n c) ∧ Reads .i8 w' a n (i8s S n) ∧ n ≤ c ∧ (a = none → c = 0)) ∧ Rd 69 w' b (S.extract n S.size) 0 ∧ Only b w w' := by
  obtain ⟨i0, hi, hz0, hz1, hz2⟩ := info_parts info62
  have hn' : decide ((S.size : Int) < (n : Int)) = false := by simp; omega
  have hn0 : decide (S.size < n) = false := by simp; omega
  have hn'' : (n : Int) ≤ (S.size : Int) := by omega
  obtain ⟨F, eF⟩ : ∃ F : Nat → Int, F = fun j => i8 (byteZ S j) := ⟨_, rfl⟩
  obtain ⟨B, eB⟩ : ∃ B, S.extract n S.size = B := ⟨_, rfl⟩
  rw [eB]
  go_enter Try.func43, Try.ntmps43
  go_wp2_with (go_at_call 42; refine c20.mono ?_; rintro e w1 ⟨rfl, r1, o1⟩; have c0 := r1.c0; have c1 := r1.c1)
  go_loopw [6, 7] (fun v i wr => ∃ k : Nat, k ≤ n ∧ i = .int .i64 k ∧ Below w1.heap.size w1 wr ∧ wr.ownsRow w1.heap.size 62 1 v k (gath F .i8 k)) (fun _ i _ => n - (intOf i).toNat)
  case atStart => exact ⟨0, Nat.zero_le _, rfl, Below.refl _ _, World.ownsRow_nil _ _ _ _⟩
  case round =>
    clear c0 c1
    obtain ⟨k, hk, rfl, hbr, ho⟩ := hrel
    by_cases hlt : k < n
    · have hr := r1.kept hbr
      have c0 := hr.c0
      have hsz := hbr.size
      have eY := byteZ_at S k (by omega)
      have lB := byteZ_lt S k
      obtain ⟨X, eX⟩ : ∃ X, byteZ S k = X := ⟨_, rfl⟩
      have Ez : Hid (i8 X = F k) := by rw [eF, ← eX]; exact rfl
      rw [eX] at eY lB
      have hw8 := wrap_i8 (X : Int)
      have hlt' : k < S.size := by omega
      clear eF eX hr
      go_wp2_with (first
        | (at_builtin; refine wpList_append_own _ rfl (.tmp 36) (.tmp 44) 33 rfl w1.heap.size 62 i0 (.int .i8 0) 1 1 Try.underlying33 hi hz0 hz1 hz2 rfl (by decide) _ _ _ rfl (ho.alloc _) ⟨_, 0, none⟩ 1 1 [.int .i8 (i8 X)] rfl rfl (one_new _ _ _) (one_oneCell _ _) (by unfold maxLen; omega) (by omega) (by simp; omega) ?_; intro v' w2 ho' hg _))
      go_roundw
      case rel => exact ⟨k + 1, by omega, by go_num, append_step hsz Ez.out hbr ho ho' hg⟩
      case measure => simp [intOf]; omega
    · have e : n = k := by omega
      subst e
      have fin := own_reads (k := .i8) (zs := i8s S n) ho (i8s_length _ _) (fun z hz => by obtain ⟨y, _, rfl⟩ := List.mem_map.1 hz; exact wf_i8 _) (fun j hj => by rw [gath_at _ _ _ _ hj, eF, i8s_at _ _ _ hj])
      obtain ⟨a, c, rfl, hre⟩ := fin
      have cap : Hid (n ≤ c ∧ (a = none → c = 0)) := by
        rcases ho.2 with ⟨h, h'⟩ | ⟨g, cap, cur, h, _, _, hn, _⟩
        · simp only [Value.slice.injEq] at h
          exact ⟨by omega, fun _ => h.2.2⟩
        · simp only [Value.slice.injEq] at h
          exact ⟨by omega, fun e => by rw [e] at h; cases h.1⟩
      have far : ∀ x, a = some x → b ≠ x.block := fun x hx he => by
        have := (ho.lt x.block (by rw [hx]; rfl)).1
        have := r1.lt
        omega
      have hr := r1.kept hbr
      have c0 := hr.c0
      have f0 := hr.f0
      have R : Hid (Reads .i8 (wr.setCell ⟨b, 0, none⟩ (.string B)) a n (i8s S n) ∧ Rd 69 (wr.setCell ⟨b, 0, none⟩ (.string B)) b B 0 ∧ Only b w (wr.setCell ⟨b, 0, none⟩ (.string B))) :=
        ⟨reads_below_set hre far, hr.set0 B, (only_then o1 hbr).trans (Only.set _ _ _ _)⟩
      clear eF ho hre hr far
      go_wp2
      go_ret
      exact ⟨⟨_, _, rfl, R.out.1, cap.out⟩, R.out.2⟩

theorem refWeights_reader (h : Rd 69 w b s e) (n : Int) (hm : s.size ≤ 9223372036854775807) : Calls Try.prog 43 #[.pointer (some ⟨b, 0, none⟩), .int .i64 n] w fun r w' =>
    (∃ a m c, r = .returned (.slice a m c) ∧ Reads .i8 w' a m (wtV s e n) ∧ m ≤ c ∧ (a = none → c = 0)) ∧ Rd 69 w' b (wtS s e n) (wtE s e n) ∧ Only b w w' := by
  have hE : wtE s e n = if twoE s e ≠ 0 then twoE s e else if twoV s e ≠ n then 21 else if ((twoS s e).size : Int) < n then 22 else 0 := rfl
  have hS : wtS s e n = if wtE s e n = 0 then (twoS s e).extract n.toNat (twoS s e).size else twoS s e := rfl
  have hV : wtV s e n = if wtE s e n = 0 then i8s (twoS s e) n.toNat else [] := rfl
  have c20 := refTwo_reader h hm
  have bV := twoV_bounds s e
  obtain ⟨V, eV⟩ : ∃ V, twoV s e = V := ⟨_, rfl⟩
  obtain ⟨S, eS⟩ : ∃ S, twoS s e = S := ⟨_, rfl⟩
  obtain ⟨E, eE⟩ : ∃ E, twoE s e = E := ⟨_, rfl⟩
  rw [eV, eS, eE] at c20 hE
  rw [eV] at bV
  rw [eS] at hS hV
  by_cases h1 : E = 0
  · subst h1
    by_cases h2 : V = n
    · subst h2
      by_cases h3 : (S.size : Int) < V
      · have eq : wtE s e V = 22 := by rw [hE]; simp [h3]
        rw [eq, if_neg (by decide)] at hS hV
        rw [eq, hS, hV]
        exact (refWts_short V S h3 c20).mono fun r w' ⟨hr, r3, o3⟩ => ⟨⟨_, _, _, hr, Reads.nil _ _, Nat.le_refl _, fun _ => rfl⟩, r3, o3⟩
      · have eq : wtE s e V = 0 := by rw [hE]; simp [h3]
        rw [eq, if_pos rfl] at hS hV
        rw [eq, hS, hV]
        obtain ⟨k, rfl⟩ : ∃ k : Nat, V = k := ⟨V.toNat, by omega⟩
        exact (refWts_ok k S (by omega) (by omega) c20).mono fun r w' ⟨⟨a, c, hr, hre, hcp⟩, r3, o3⟩ => ⟨⟨_, _, _, hr, hre, hcp⟩, r3, o3⟩
    · have eq : wtE s e n = 21 := by rw [hE]; simp [h2]
      rw [eq, if_neg (by decide)] at hS hV
      rw [eq, hS, hV]
      exact (refWts_shape n V S h2 c20).mono fun r w' ⟨hr, r3, o3⟩ => ⟨⟨_, _, _, hr, Reads.nil _ _, Nat.le_refl _, fun _ => rfl⟩, r3, o3⟩
  · have eq : wtE s e n = E := by rw [hE, if_pos h1]
    rw [eq, if_neg h1] at hS hV
    rw [eq, hS, hV]
    exact (refWts_bad n V E S h1 c20).mono fun r w' ⟨hr, r3, o3⟩ => ⟨⟨_, _, _, hr, Reads.nil _ _, Nat.le_refl _, fun _ => rfl⟩, r3, o3⟩

end Go.Proofs.Ytbmlafgolmmekaa

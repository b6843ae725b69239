/- Places of texts in rows: slices.Index and slices.Contains. -/
import Derived.Test.YtfggkkhehaafcaaRows
import Derived.Test.YtfggkkhehaafcaaPages
import Derived.Test.YtfggkkhehaafcaaView
import Derived.Test.YtfggkkhehaafcaaOwn
import Derived.Test.YtfggkkhehaafcaaReadsP
import Derived.Test.YtfggkkhehaafcaaLeast
import Derived.Test.YtfggkkhehaafcaaMapV
import Derived.Test.YtfggkkhehaafcaaShPlain
import Derived.Test.YtfggkkhehaafcaaShActs
import Derived.Test.YtfggkkhehaafcaaShAt
import Derived.WalkKit
import Derived.ProofKit
import Derived.OpenShut
import Derived.Below
import Derived.WalkLawsBesides
import Derived.Deep.QuietTactic
import Derived.BigQuiet
namespace Go.Proofs.Ytfggkkhehaafcaa
open Go.ChangeShapes Go.WideShapes Go.ChangeAt Go.RowKit
set_option linter.unusedVariables false
set_option linter.unusedSimpArgs false

theorem text_same {a b : ByteArray} (h : a = b) : (a.toList == b.toList) = true := by subst h; simp
theorem text_other {a b : ByteArray} (h : a ≠ b) : (a.toList == b.toList) = false := by
  rw [beq_eq_false_iff_ne]
  intro e
  rw [ByteArray.toList_eq, ByteArray.toList_eq] at e
  exact h (ByteArray.ext (Array.toList_inj.1 e))

/-- a text that is not there -/
theorem index_no {w : World} {a : Option Addr} {l c : Nat} {ts : List ByteArray} (h : ReadT w a l ts) (n : ByteArray) (hn : ∀ j, j < l → ts.getD j noText ≠ n) (hl : l ≤ 1000000) :
    Calls Try.prog 77 #[.slice a l c, .string n] w fun e w' => e = .returned (.int .i64 (-1)) ∧ w' = w := by
  have HR := hidden_ h
  have HN := hidden_ hn
  clear h hn
  go_enter Try.func77, Try.ntmps77
  go_wp2
  go_loopw [8] (fun i wr => ∃ k : Nat, k ≤ l ∧ i = .int .i64 k ∧ wr = w) (fun i _ => l - (intOf i).toNat)
  case atStart => exact ⟨0, Nat.zero_le _, rfl, rfl⟩
  case round =>
    obtain ⟨k, hk, rfl, rfl⟩ := hrel
    by_cases hlt : k < l
    · obtain ⟨y, rfl⟩ := HR.out.some_ (by omega)
      have cy := HR.out.cell y rfl k hlt
      obtain ⟨t, et⟩ : ∃ t, ts.getD k noText = t := ⟨_, rfl⟩
      have q := text_other (a := n) (b := t) (fun e => HN.out k hlt (et.trans e.symm))
      rw [et] at cy
      clear et
      go_wp2
      go_roundw
      case rel => exact ⟨k + 1, by omega, by go_num, trivial⟩
      case measure => simp [intOf]; omega
    · have e : k = l := by omega
      subst e
      go_wp2
      go_ret
      exact ⟨rfl, rfl⟩

/-- the first place of a text -/
theorem index_yes {w : World} {a : Option Addr} {l c : Nat} {ts : List ByteArray} (h : ReadT w a l ts) (n : ByteArray) (K : Nat) (hK : K < l) (hn : ∀ j, j < K → ts.getD j noText ≠ n) (he : ts.getD K noText = n) (hl : l ≤ 1000000) :
    Calls Try.prog 77 #[.slice a l c, .string n] w fun e w' => e = .returned (.int .i64 (K : Int)) ∧ w' = w := by
  have HR := hidden_ h
  have HN := hidden_ hn
  have HE := hidden_ he
  clear h hn he
  go_enter Try.func77, Try.ntmps77
  go_wp2
  go_loopw [8] (fun i wr => ∃ k : Nat, k ≤ K ∧ i = .int .i64 k ∧ wr = w) (fun i _ => l - (intOf i).toNat)
  case atStart => exact ⟨0, Nat.zero_le _, rfl, rfl⟩
  case round =>
    obtain ⟨k, hk, rfl, rfl⟩ := hrel
    have hlt : k < l := by omega
    obtain ⟨y, rfl⟩ := HR.out.some_ (by omega)
    have cy := HR.out.cell y rfl k hlt
    obtain ⟨t, et⟩ : ∃ t, ts.getD k noText = t := ⟨_, rfl⟩
    rw [et] at cy
    by_cases e : k = K
    · subst e
      have q := text_same (a := n) (b := t) (HE.out.symm.trans et)
      clear et hk
      go_wp2
      go_ret
      exact ⟨rfl, rfl⟩
    · have q := text_other (a := n) (b := t) (fun e' => HN.out k (by omega) (et.trans e'.symm))
      clear et
      go_wp2
      go_roundw
      case rel => exact ⟨k + 1, by omega, by go_num, trivial⟩
      case measure => simp [intOf]; omega

/-- where a text that is there stands first -/
theorem first_at {ts : List ByteArray} {n : ByteArray} (h : n ∈ ts) : ∃ K, K < ts.length ∧ ts.getD K noText = n ∧ ∀ j, j < K → ts.getD j noText ≠ n := by
  induction ts with
  | nil => cases h
  | cons t r ih =>
    by_cases e : t = n
    · exact ⟨0, by simp, by simpa using e, fun j hj => by omega⟩
    · obtain ⟨K, h1, h2, h3⟩ := ih (by rcases List.mem_cons.1 h with c | c; exact absurd c.symm e; exact c)
      refine ⟨K + 1, by simpa using h1, by simpa using h2, fun j hj => ?_⟩
      cases j with
      | zero => simpa using e
      | succ j => simpa using h3 j (by omega)
theorem not_at {ts : List ByteArray} {n : ByteArray} (h : n ∉ ts) : ∀ j, j < ts.length → ts.getD j noText ≠ n := fun j hj e => h (by
  rw [← e]
  simp [List.getD, hj])
theorem erase_at {ts : List ByteArray} (hd : ts.Nodup) {n : ByteArray} {K : Nat} (hK : K < ts.length) (he : ts.getD K noText = n) : ts.eraseIdx K = ts.filter (fun u => !decide (u = n)) := by
  induction ts generalizing K with
  | nil => simp at hK
  | cons t r ih =>
    obtain ⟨h1, h2⟩ := List.nodup_cons.1 hd
    cases K with
    | zero =>
      have e : t = n := by simpa using he
      subst e
      rw [List.eraseIdx_zero, List.tail_cons, List.filter_cons_of_neg (by simp)]
      exact (List.filter_eq_self.2 fun u hu => by have q : ¬ u = t := fun e => h1 (by rw [← e]; exact hu); simp [q]).symm
    | succ K =>
      have hK' : K < r.length := by simpa using hK
      have he' : r.getD K noText = n := by simpa using he
      have e : ¬ t = n := fun e => h1 (by rw [e, ← he']; simp [List.getD, hK'])
      rw [List.eraseIdx_cons_succ, List.filter_cons_of_pos (by simp [e]), ih h2 hK' he']

/-- is a text there? -/
def inT (ts : List ByteArray) (n : ByteArray) : Bool := ts.any fun u => decide (u = n)
theorem inT_yes {ts : List ByteArray} {n : ByteArray} (h : n ∈ ts) : inT ts n = true := by simp [inT, h]
theorem inT_no {ts : List ByteArray} {n : ByteArray} (h : n ∉ ts) : inT ts n = false := by
  unfold inT
  rw [List.any_eq_false]
  intro u hu
  have q : ¬ u = n := fun e => h (by rw [← e]; exact hu)
  simp [q]

theorem contains_call {w : World} {a : Option Addr} {l c : Nat} {ts : List ByteArray} (h : ReadT w a l ts) (n : ByteArray) (hl : l ≤ 1000000) :
    Calls Try.prog 70 #[.slice a l c, .string n] w fun e w' => e = .returned (.bool (inT ts n)) ∧ w' = w := by
  have hlen := h.len
  by_cases hm : n ∈ ts
  · obtain ⟨K, h1, h2, h3⟩ := first_at hm
    have k := index_yes (c := c) h n K (by omega) h3 h2 hl
    rw [inT_yes hm]
    clear h h3 h2 hm
    go_enter Try.func70, Try.ntmps70
    go_wp2_with (first | (go_at_call 77; refine k.mono ?_; rintro e w' ⟨rfl, h1⟩; obtain rfl := h1.symm))
    go_ret
    exact ⟨rfl, rfl⟩
  · have k := index_no (c := c) h n (by rw [← hlen]; exact not_at hm) hl
    rw [inT_no hm]
    clear h hm
    go_enter Try.func70, Try.ntmps70
    go_wp2_with (first | (go_at_call 77; refine k.mono ?_; rintro e w' ⟨rfl, h1⟩; obtain rfl := h1.symm))
    go_ret
    exact ⟨rfl, rfl⟩

end Go.Proofs.Ytfggkkhehaafcaa

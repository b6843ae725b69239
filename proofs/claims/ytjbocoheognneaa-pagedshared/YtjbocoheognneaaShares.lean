/- Pages with a second owner, as plain values: what is answered, and what lies there. -/
import Derived.Test.YtjbocoheognneaaRows
import Derived.Test.YtjbocoheognneaaPages
import Derived.Test.YtjbocoheognneaaView
import Derived.Test.YtjbocoheognneaaOwn
import Derived.Test.YtjbocoheognneaaReadsP
import Derived.Test.YtjbocoheognneaaReadsQ
import Derived.Test.YtjbocoheognneaaLeast
import Derived.Test.YtjbocoheognneaaLays
import Derived.Test.YtjbocoheognneaaTurns
import Derived.Test.YtjbocoheognneaaNews
import Derived.Test.YtjbocoheognneaaGoods
import Derived.Test.YtjbocoheognneaaPlain
import Derived.Test.YtjbocoheognneaaLies
import Derived.Test.YtjbocoheognneaaNeeds
import Derived.Test.YtjbocoheognneaaPlace
import Derived.Test.YtjbocoheognneaaFetch
import Derived.Test.YtjbocoheognneaaRelease
import Derived.Test.YtjbocoheognneaaWorks12
import Derived.Test.YtjbocoheognneaaPlaces
import Derived.Test.YtjbocoheognneaaFetches
import Derived.Test.YtjbocoheognneaaFetched
import Derived.Test.YtjbocoheognneaaRefRel
import Derived.Test.YtjbocoheognneaaSame
import Derived.Test.YtjbocoheognneaaCount
import Derived.Test.YtjbocoheognneaaWorks
import Derived.WalkKit
import Derived.ProofKit
import Derived.OpenShut
import Derived.Below
import Derived.WalkLawsBesides
import Derived.Deep.QuietTactic
import Derived.BigQuiet
namespace Go.Proofs.Ytjbocoheognneaa
open Go.ChangeShapes Go.WideShapes Go.ChangeAt Go.RowKit
set_option linter.unusedVariables false

theorem Lies.steps {s : Pl} {P W : List Int} {o o' : Int} (f : Pg → Pg) (h : Lies s P W o) (ho : o ≠ 0) (hc : ∀ q, (f q).cell = q.cell) (hw : ∀ q, q.ow = o → (f q).ow = o') :
    Lies (P.foldl (stepS f) s) P W o' ∧ (P.foldl (stepS f) s).n = s.n ∧ (∀ x : Nat, (x : Int) ∉ P → (P.foldl (stepS f) s).pg x = s.pg x) ∧ (∀ z ∈ P, ((P.foldl (stepS f) s).pg z.toNat).ow = o') := by
  obtain ⟨a1, a2, a3, a4⟩ := steps_all f P s h.own.1 (h.own.used ho)
  have key : ∀ z ∈ P, (P.foldl (stepS f) s).pg z.toNat = f (s.pg z.toNat) := fun z hz => a3 z.toNat (by rw [Int.toNat_of_nonneg (h.own.2 z hz).1]; exact hz)
  have how : ∀ z ∈ P, ((P.foldl (stepS f) s).pg z.toNat).ow = o' := fun z hz => by rw [key z hz]; exact hw _ (h.own.2 z hz).2.2
  refine ⟨⟨⟨h.own.1, fun z hz => ⟨(h.own.2 z hz).1, by rw [a1]; exact (h.own.2 z hz).2.1, how z hz⟩⟩, h.len, fun i hi => ?_⟩, a1, a4, how⟩
  have hl := h.len
  rw [key _ (getD_mem (by omega)), hc]
  exact h.val i hi
theorem shPg_cell (q : Pg) : (shPg q).cell = q.cell := rfl
theorem dropPg_cell (q : Pg) : (dropPg q).cell = q.cell := by unfold dropPg; split <;> rfl
theorem dropPg_ow (q : Pg) (o : Int) (h : q.ow = o) : (dropPg q).ow = o - 1 := by
  unfold dropPg
  split
  · show 0 = _
    omega
  · show q.ow - 1 = _
    omega
theorem freeTo_zero (p q : Nat → Pg) (n : Nat) (h : ∀ x, x < n → ((p x).ow = 0 ↔ (q x).ow = 0)) : freeTo p n = freeTo q n := by
  induction n with
  | zero => rfl
  | succ n ih =>
    simp only [freeTo]
    rw [ih (fun x hx => h x (by omega))]
    by_cases c : (p n).ow = 0
    · rw [if_pos c, if_pos ((h n (by omega)).1 c)]
    · rw [if_neg c, if_neg (fun d => c ((h n (by omega)).2 d))]
theorem free_same {s s' : Pl} {P : List Int} {o o' : Int} (h : Owned s P o) (h' : Owned s' P o') (ho : o ≠ 0) (ho' : o' ≠ 0) (ha : ∀ x : Nat, (x : Int) ∉ P → s'.pg x = s.pg x) (n : Nat) : freeTo s'.pg n = freeTo s.pg n :=
  freeTo_zero _ _ _ fun x _ => by
    by_cases c : (x : Int) ∈ P
    · have e1 := (h.2 _ c).2.2
      have e2 := (h'.2 _ c).2.2
      rw [Int.toNat_natCast] at e1 e2
      rw [e1, e2]
      exact ⟨fun e => absurd e ho', fun e => absurd e ho⟩
    · rw [ha x c]

/-- all that the statement asks, in order -/
structure Story (W P : List Int) (S1 S2 S3 S4 : Pl) : Prop where
  place : placeE (newPl 40) tM W = 0 ∧ placeR (newPl 40) tM W = P ∧ placeS (newPl 40) tM W = S1
  len : P.length = (W.length + 31) / 32
  g1 : Good 5 S1
  s2 : P.foldl shS S1 = S2
  g2 : Good 105 S2
  twice : relE S2 (P ++ P ++ [P.getD 0 0]) = 25 ∧ relS S2 (P ++ P ++ [P.getD 0 0]) = S2
  once : relE S2 P = 0 ∧ relS S2 P = S3
  g3 : Good 105 S3
  fetch : fetchE S3 P W.length = 0 ∧ fetchR S3 P W.length = W
  again : relE S3 P = 0 ∧ relS S3 P = S4
  g4 : Good 105 S4
  gone : fetchE S4 P W.length = 25
  n4 : S4.n = 40
  free : freeTo S4.pg 40 = 40
  none_ : relE S4 P = 25 ∧ relS S4 P = S4

theorem Good.shares {m : Nat} (P : List Int) : ∀ {s : Pl}, Good m s → Good (m + P.length) (P.foldl Ytjbocoheognneaa.shS s) := by
  induction P generalizing m with
  | nil => intro s h; exact h
  | cons z r ih =>
    intro s h
    have := ih (h.shS z)
    rw [List.foldl_cons, List.length_cons, show m + (r.length + 1) = m + 1 + r.length by omega]
    exact this

theorem story (W : List Int) (hw : ∀ z ∈ W, (Lit.int .i8 z).wf = true) (h0 : 0 < W.length) (h1 : W.length ≤ 1000) : ∃ P S1 S2 S3 S4, Story W P S1 S2 S3 S4 := by
  have hE := place_new 40 W (by omega)
  have hG := good_new 40 5 (by decide) (by decide)
  obtain ⟨hL, hn, _, hoth, _, hfree⟩ := placed hG tM W hE
  have hGs := hG.placeS (by decide) tM W
  obtain ⟨P, eP⟩ : ∃ P, placeR (newPl 40) tM W = P := ⟨_, rfl⟩
  obtain ⟨S1, eS1⟩ : ∃ S1, placeS (newPl 40) tM W = S1 := ⟨_, rfl⟩
  rw [eP, eS1] at hL hoth hfree
  rw [eS1] at hn hGs
  have hn40 : S1.n = 40 := hn
  have hlen := hL.len
  rw [show (newPl 40).n = 40 from rfl, freeTo_new 40 40] at hfree
  obtain ⟨L2, n2, o2, w2⟩ := hL.steps shPg (o' := 2) (by decide) shPg_cell (fun q hq => by show q.ow + 1 = 2; omega)
  rw [← shS_step] at L2 n2 o2 w2
  have g2 := Good.shares P hGs
  obtain ⟨S2, eS2⟩ : ∃ S2, P.foldl shS S1 = S2 := ⟨_, rfl⟩
  rw [eS2] at L2 n2 o2 w2 g2
  have g2' : Good 105 S2 := g2.mono (by omega)
  have f2 := free_same hL.own L2.own (by decide) (by decide) o2 40
  obtain ⟨L3, n3, o3, w3⟩ := L2.steps dropPg (o' := 1) (by decide) dropPg_cell (fun q hq => dropPg_ow q 2 hq)
  rw [← drS_step] at L3 n3 o3 w3
  have g3 := Good.drops P g2'
  obtain ⟨S3, eS3⟩ : ∃ S3, P.foldl drS S2 = S3 := ⟨_, rfl⟩
  rw [eS3] at L3 n3 o3 w3 g3
  have f3 := free_same L2.own L3.own (by decide) (by decide) o3 40
  obtain ⟨L4, n4, o4, w4⟩ := L3.steps dropPg (o' := 0) (by decide) dropPg_cell (fun q hq => dropPg_ow q 1 hq)
  rw [← drS_step] at L4 n4 o4 w4
  have g4 := Good.drops P g3
  have f4 := drops_free P S3 L3.own
  obtain ⟨S4, eS4⟩ : ∃ S4, P.foldl drS S3 = S4 := ⟨_, rfl⟩
  rw [eS4] at L4 n4 o4 w4 g4 f4
  have hn3 : S3.n = 40 := by rw [n3, n2, hn40]
  rw [hn3] at f4
  have hm0 : P.getD 0 0 ∈ P := getD_mem (by omega)
  have hne : P ≠ [] := fun e => by rw [e] at hlen; simp at hlen; omega
  have hu4 : ∀ z ∈ P, usedB S4 z = false := fun z hz => by
    unfold usedB
    rw [decide_eq_false_iff_not]
    exact fun q => q.2.2 (w4 z hz)
  have r2 : relB S2 (P ++ P ++ [P.getD 0 0]) = false := by
    cases e : relB S2 (P ++ P ++ [P.getD 0 0]) with
    | false => rfl
    | true =>
      exfalso
      have hq := (relB_iff S2 _).1 e (P.getD 0 0) (by simp)
      rw [L2.own.ow (by decide) _ hm0, List.count_append, List.count_append] at hq
      have h3 : 1 ≤ P.count (P.getD 0 0) := List.count_pos_iff.2 hm0
      have h4 : [P.getD 0 0].count (P.getD 0 0) = 1 := by simp
      omega
  have r3 := L2.own.rel (by decide)
  have r4 := L3.own.rel (by decide)
  have r5 := rel_gone hne hu4
  refine ⟨P, S1, S2, S3, S4, ⟨hE, eP, eS1⟩, hlen, hGs, eS2, g2', ⟨?_, ?_⟩, ⟨?_, ?_⟩, g3, L3.fetch (by decide) hw, ⟨?_, ?_⟩, g4, fetch_gone hlen h0 (hu4 _ hm0), by rw [n4, hn3], by omega, ⟨?_, ?_⟩⟩
  · unfold relE; rw [r2]; rfl
  · unfold relS; rw [r2]; rfl
  · unfold relE; rw [if_pos r3]
  · unfold relS; rw [if_pos r3]; exact eS3
  · unfold relE; rw [if_pos r4]
  · unfold relS; rw [if_pos r4]; exact eS4
  · unfold relE; rw [r5]; rfl
  · unfold relS; rw [r5]; rfl

end Go.Proofs.Ytjbocoheognneaa

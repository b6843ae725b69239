/- Texts put together: MineK, Bools, YieldK, YieldM. -/
import Derived.Test.YtfggkkhehaafcaaRows
import Derived.Test.YtfggkkhehaafcaaPages
import Derived.Test.YtfggkkhehaafcaaView
import Derived.Test.YtfggkkhehaafcaaOwn
import Derived.Test.YtfggkkhehaafcaaReadsP
import Derived.Test.YtfggkkhehaafcaaReadsQ
import Derived.Test.YtfggkkhehaafcaaLeast
import Derived.Test.YtfggkkhehaafcaaLays
import Derived.Test.YtfggkkhehaafcaaNews
import Derived.Test.YtfggkkhehaafcaaGoods
import Derived.Test.YtfggkkhehaafcaaPlain
import Derived.Test.YtfggkkhehaafcaaLies
import Derived.Test.YtfggkkhehaafcaaShPlain
import Derived.Test.YtfggkkhehaafcaaShActs
import Derived.Test.YtfggkkhehaafcaaShIn
import Derived.WalkKit
import Derived.ProofKit
import Derived.OpenShut
import Derived.Below
import Derived.WalkLawsBesides
import Derived.Deep.QuietTactic
import Derived.BigQuiet
import Derived.Deep.Grids
import Derived.Test.YtfggkkhehaafcaaShAt
import Derived.Test.YtfggkkhehaafcaaOldK
import Derived.Test.YtfggkkhehaafcaaCount
import Derived.Test.YtfggkkhehaafcaaFetch
import Derived.Test.YtfggkkhehaafcaaMapV
import Derived.Test.YtfggkkhehaafcaaShTurn
import Derived.Test.YtfggkkhehaafcaaWorksK
import Derived.Test.YtfggkkhehaafcaaOldM
import Derived.Maps.OwnSet
namespace Go.Proofs.Ytfggkkhehaafcaa

/- Nobody beside the shelf has pages: which are free. -/
section
open Go.ChangeShapes Go.WideShapes Go.ChangeAt Go.RowKit
set_option linter.unusedVariables false
set_option linter.unusedSimpArgs false

def sumP (L : List It) : Nat := (L.map (fun x => x.P.length)).sum
theorem sumP_append (L M : List It) : sumP (L ++ M) = sumP L + sumP M := by simp [sumP]
theorem sumP_cons (x : It) (L : List It) : sumP (x :: L) = x.P.length + sumP L := by simp [sumP]
theorem sumP_nil : sumP [] = 0 := rfl
theorem sumP_chg (f : It → It) (hf : ∀ x, (f x).P = x.P) (n : ByteArray) (L : List It) : sumP (chg f n L) = sumP L := by
  unfold sumP chg
  rw [List.map_map]
  congr 2
  funext x
  simp only [Function.comp]
  split
  · rw [hf]
  · rfl
theorem sumP_rem {L : List It} (h : Nd L) {x : It} (hx : x ∈ L) : sumP (rem L x.nm) + x.P.length = sumP L := by
  induction L with
  | nil => cases hx
  | cons y r ih =>
    obtain ⟨h1, h2⟩ := List.pairwise_cons.1 h
    by_cases e : y.nm = x.nm
    · have ey : y = x := mem_same h (by simp) hx e
      subst ey
      have er : rem (y :: r) y.nm = r := by
        unfold Ytfggkkhehaafcaa.rem
        rw [List.filter_cons_of_neg (by simp)]
        exact List.filter_eq_self.2 fun u hu => by have q : ¬ u.nm = y.nm := fun e => h1 u hu e.symm; simp [q]
      rw [er, sumP_cons]
      omega
    · have hx' : x ∈ r := by
        rcases List.mem_cons.1 hx with c | c
        · rw [c] at e
          exact absurd rfl e
        · exact c
      have er : rem (y :: r) x.nm = y :: rem r x.nm := by
        unfold Ytfggkkhehaafcaa.rem
        rw [List.filter_cons_of_pos (by simp [e])]
      rw [er, sumP_cons, sumP_cons]
      have := ih h2 hx'
      omega
theorem sumP_rel {L : List It} (h : Nd L) {x : It} (hx : x ∈ L) : sumP (rel L x.nm) + x.P.length = sumP L := by
  induction L with
  | nil => cases hx
  | cons y r ih =>
    obtain ⟨h1, h2⟩ := List.pairwise_cons.1 h
    by_cases e : y.nm = x.nm
    · have ey : y = x := mem_same h (by simp) hx e
      subst ey
      have er : rel (y :: r) y.nm = gone y :: r := by
        show chg gone y.nm (y :: r) = _
        have := chg_none gone y.nm r (fun u hu c => h1 u hu c.symm)
        unfold chg at this ⊢
        rw [List.map_cons, if_pos rfl, this]
      rw [er, sumP_cons, sumP_cons]
      show 0 + sumP r + y.P.length = _
      omega
    · have hx' : x ∈ r := by
        rcases List.mem_cons.1 hx with c | c
        · rw [c] at e
          exact absurd rfl e
        · exact c
      have er : rel (y :: r) x.nm = y :: rel r x.nm := by
        show chg gone x.nm (y :: r) = _
        unfold rel chg
        rw [List.map_cons, if_neg e]
      rw [er, sumP_cons, sumP_cons]
      have := ih h2 hx'
      omega
theorem sumP_few {L : List It} (m : Nat) (h : ∀ x ∈ L, x.P.length ≤ m) : sumP L ≤ m * L.length := by
  induction L with
  | nil => exact Nat.zero_le _
  | cons x r ih =>
    have h1 := h x (by simp)
    have h2 := ih fun y hy => h y (by simp [hy])
    rw [sumP_cons, List.length_cons, Nat.mul_succ]
    omega

/-- nobody else has pages -/
structure Mn (s : Pl) (L : List It) : Prop where
  aside : s.aside = 0
  cover : ∀ z : Nat, z < s.n → (s.pg z).ow ≠ 0 → ∃ it ∈ L, (z : Int) ∈ it.P
  sum : hand s + (sumP L : Int) = s.n

theorem Mn.put {s : Pl} {L : List It} (h : Mn s L) (n : ByteArray) (W : List Int) : Mn s (putL L n W) := by
  unfold putL
  split
  · refine ⟨h.aside, fun z hz ho => ?_, ?_⟩
    · obtain ⟨it, hi, hz'⟩ := h.cover z hz ho
      exact ⟨it, List.mem_append_left _ hi, hz'⟩
    · rw [sumP_append]
      exact h.sum
  · exact h
theorem Mn.unpin {s : Pl} {L : List It} (h : Mn s L) (n : ByteArray) : Mn s (unpL L n) := by
  unfold unpL
  split
  · refine ⟨h.aside, fun z hz ho => ?_, ?_⟩
    · obtain ⟨it, hi, hz'⟩ := h.cover z hz ho
      by_cases e : it.nm = n
      · exact ⟨less it, List.mem_map.2 ⟨it, hi, by rw [if_pos e]⟩, hz'⟩
      · exact ⟨it, List.mem_map.2 ⟨it, hi, by rw [if_neg e]⟩, hz'⟩
    · rw [sumP_chg less (fun _ => rfl)]
      exact h.sum
  · exact h
theorem Mn.release {cap : Nat} {s : Pl} {L : List It} (h : Mn s L) (hok : ShOk cap s L) {x : It} (hx : x ∈ L) : Mn (relS s x.P) (rel L x.nm) := by
  obtain ⟨a0, a1, a2, a3, a4, a5⟩ := relS_owned (hok.owned hx)
  refine ⟨by rw [a2]; exact h.aside, fun z hz ho => ?_, ?_⟩
  · rw [a1] at hz
    have hz' : (z : Int) ∉ x.P := fun c => ho (a3 z c)
    rw [a4 z hz'] at ho
    obtain ⟨it, hi, hzi⟩ := h.cover z hz ho
    have e : ¬ it.nm = x.nm := fun e => hz' (by rw [← mem_same hok.nd hi hx e]; exact hzi)
    exact ⟨it, List.mem_map.2 ⟨it, hi, by rw [if_neg e]⟩, hzi⟩
  · rw [hand_rel (hok.owned hx), a1]
    have h1 := sumP_rel hok.nd hx
    have h2 := h.sum
    omega
theorem Mn.yield {cap : Nat} {s : Pl} {L : List It} (h : Mn s L) (hok : ShOk cap s L) : Mn (yieldP s L).1 (yieldP s L).2 := by
  unfold yieldP
  cases e : L.find? loose with
  | none => exact h
  | some x =>
    obtain ⟨h1, h2, h3⟩ := find_loose e
    exact h.release hok h1
theorem Mn.yields {cap : Nat} {n : Int} : ∀ (k : Nat) (s : Pl) (L : List It), (L.filter loose).length = k → ShOk cap s L → Mn s L → Mn (yieldsAll s L n).1 (yieldsAll s L n).2 := by
  intro k
  induction k with
  | zero =>
    intro s L hk hok h
    unfold yieldsAll
    rw [hk]
    exact h
  | succ k ih =>
    intro s L hk hok h
    by_cases c : hand s < n
    · cases e : L.find? loose with
      | none =>
        unfold yieldsAll
        rw [hk]
        simp only [Ytfggkkhehaafcaa.yields]
        rw [if_pos c, e]
        exact h
      | some x =>
        obtain ⟨h1, h2, h3⟩ := find_loose e
        rw [yieldsAll_step hok.nd c e]
        exact ih _ _ (by have := (looseP_rel hok.nd h1 (loose_of h2 h3)).2; omega) (hok.release h1 h3) (h.release hok h1)
    · rw [yieldsAll_stop c]
      exact h
theorem Mn.remove {cap : Nat} {s : Pl} {L : List It} (h : Mn s L) (hok : ShOk cap s L) (n : ByteArray) (h0 : remE L n = 0) : Mn (remS s L n) (remL L n) := by
  have e2 : remL L n = rem L n := by unfold remL; rw [if_pos h0]
  unfold remE at h0
  cases hl : look L n with
  | none => rw [hl] at h0; simp at h0
  | some x =>
    rw [hl] at h0
    simp only at h0
    have c : ¬ 0 < x.pins := fun c => by rw [if_pos c] at h0; omega
    have e1 : remS s L n = relS s x.P := by unfold remS; rw [hl]; simp only; rw [if_neg c]
    obtain ⟨hx, hn⟩ := look_some hl
    have q := h.release hok hx
    rw [e1, e2]
    refine ⟨q.aside, fun z hz ho => ?_, ?_⟩
    · obtain ⟨it, hi, hz'⟩ := q.cover z hz ho
      obtain ⟨u, hu, ⟨c1, rfl⟩ | ⟨c1, rfl⟩⟩ := chg_mem _ _ hi
      · cases hz'
      · exact ⟨it, rem_mem.2 ⟨hu, by rw [← hn]; exact c1⟩, hz'⟩
    · have h1 := q.sum
      have h2 := sumP_rel hok.nd hx
      have h3 := sumP_rem hok.nd hx
      rw [hn] at h2 h3
      rw [hn] at h1
      omega
theorem Mn.pin {cap : Nat} {s : Pl} {L : List It} (h : Mn s L) (hok : ShOk cap s L) (n : ByteArray) : Mn (pinP s L n).1 (pinP s L n).2 := by
  unfold pinP
  cases hl : look L n with
  | none => exact h
  | some x =>
    obtain ⟨hx, hn⟩ := look_some hl
    simp only
    by_cases hi : x.is = true
    · rw [if_pos hi]
      refine ⟨h.aside, fun z hz ho => ?_, ?_⟩
      · obtain ⟨it, hit, hz'⟩ := h.cover z hz ho
        by_cases e : it.nm = x.nm
        · have := mem_same hok.nd hit hx e
          subst this
          exact ⟨_, List.mem_append_right _ (List.mem_singleton.2 rfl), hz'⟩
        · exact ⟨it, List.mem_append_left _ (rem_mem.2 ⟨hit, e⟩), hz'⟩
      · have h1 := sumP_rem hok.nd hx
        have h2 := h.sum
        unfold bump
        rw [sumP_append, sumP_cons, sumP_nil]
        show hand s + ((sumP (rem L x.nm) + (x.P.length + 0) : Nat) : Int) = s.n
        omega
    · rw [if_neg hi]
      by_cases hr : roomZ s L < needZ x.W.length
      · rw [if_pos hr]
        exact h
      · rw [if_neg hr]
        have h0 := pin_place hok hr
        obtain ⟨i1, i2, i3, i4⟩ := yieldsAll_ok (cap := cap) (n := needZ x.W.length) _ s L rfl hok (need_room hr)
        have hm := Mn.yields (n := needZ x.W.length) _ s L rfl hok h
        have hx' := i3 n x hl (by simp [loose, hi])
        obtain ⟨q, eq⟩ : ∃ q, yieldsAll s L (needZ x.W.length) = q := ⟨_, rfl⟩
        rw [eq] at h0 i1 i2 hm hx' ⊢
        obtain ⟨hxq, _⟩ := look_some hx'
        have hxP := (hok.off x hx (by simpa using hi)).1
        obtain ⟨p1, p2, p3, p4, p5, p6⟩ := placed i1.good (plus x.nm) x.W h0
        refine ⟨by show (placeS q.1 (plus x.nm) x.W).aside = 0; rw [p3]; exact hm.aside, fun z hz ho => ?_, ?_⟩
        · by_cases c : (z : Int) ∈ placeR q.1 (plus x.nm) x.W
          · exact ⟨_, List.mem_append_right _ (List.mem_singleton.2 rfl), c⟩
          · have e := p4 z c
            have ho' : (q.1.pg z).ow ≠ 0 := by rw [← e]; exact ho
            have hz' : z < q.1.n := by rw [← p2]; exact hz
            obtain ⟨it, hit, hzi⟩ := hm.cover z hz' ho'
            refine ⟨it, List.mem_append_left _ (rem_mem.2 ⟨hit, fun e' => ?_⟩), hzi⟩
            have := mem_same i1.nd hit hxq e'
            rw [this, hxP] at hzi
            cases hzi
        · have h1 := sumP_rem i1.nd hxq
          have h2 := hm.sum
          rw [hxP] at h1
          have h3 : hand (placeS q.1 (plus x.nm) x.W) + (placeR q.1 (plus x.nm) x.W).length = hand q.1 := by
            unfold hand
            rw [p2, p3]
            omega
          unfold bump
          rw [sumP_append, sumP_cons, sumP_nil]
          show hand (placeS q.1 (plus x.nm) x.W) + ((sumP (rem q.2 x.nm) + ((placeR q.1 (plus x.nm) x.W).length + 0) : Nat) : Int) = ((placeS q.1 (plus x.nm) x.W).n : Int)
          rw [p2]
          simp only [List.length_nil] at h1
          omega
theorem mn_new (n : Nat) : Mn (newPl n) [] := ⟨rfl, fun z hz ho => absurd rfl ho, by
  show hand (newPl n) + (0 : Int) = n
  unfold hand
  rw [show (newPl n).n = n from rfl, freeTo_new]
  show (n : Int) - 0 + 0 = n
  omega⟩

theorem cnt_zero (p : Nat → Pg) (t : ByteArray) (n : Nat) (h : ∀ z, z < n → ¬ (0 < (p z).ow ∧ (p z).tag.toList = t.toList)) : cntTo p t n = 0 := by
  induction n with
  | zero => rfl
  | succ n ih =>
    simp only [cntTo]
    rw [ih (fun z hz => h z (by omega)), if_neg (h n (by omega))]
theorem all_used (p : Nat → Pg) (n : Nat) (h : ∀ z, z < n → (p z).ow = 0) : freeTo p n = n := by
  induction n with
  | zero => rfl
  | succ n ih =>
    simp only [freeTo]
    rw [ih (fun z hz => h z (by omega)), if_pos (h n (by omega))]
end

/- Rows of bools that are handed in. -/
section
open Go.ChangeShapes Go.WideShapes Go.ChangeAt Go.RowKit
set_option linter.unusedVariables false
set_option linter.unusedSimpArgs false

/-- the first n cells from a on are these bools -/
structure ReadH (w : World) (a : Option Addr) (n : Nat) (B : Nat → Bool) : Prop where
  max : n ≤ 9223372036854775807
  some_ : 0 < n → ∃ x, a = some x
  cell : ∀ x, a = some x → ∀ i, i < n → w.cell? (x.add i) = some (.bool (B i))
theorem ReadH.below {w w' : World} {a : Option Addr} {n : Nat} {B : Nat → Bool} (h : ReadH w a n B) (hb : Below w.heap.size w w') : ReadH w' a n B :=
  ⟨h.max, h.some_, fun x hx i hi => by have c := h.cell x hx i hi; exact (hb.cell (World.block_lt_of_cell? w _ c)).trans c⟩
theorem open_hs {H : Type} {enc : TypeId × Value → H} {W : World} {a : Option Addr} {n c : Nat} {d : DataW H} {p : List MemPlace} (h : DataW.Trod enc Try.prog W 0 (fun _ => true) true 61 (.slice a n c) d p) : ∃ B : Nat → Bool, ReadH W a n B ∧ (a = none → c = 0) ∧ n ≤ c := by
  obtain ⟨fuel, hf⟩ := h
  rcases Go.Deep.open_bools Try.underlying61 Try.underlying4 (by kernel_rfl) hf with ⟨hcs, _⟩ | ⟨x, l, c', B, hcs, _, hl, hm, _, hcell⟩
  · simp [Value.cells] at hcs
    obtain ⟨rfl, rfl, rfl⟩ := hcs
    exact ⟨fun _ => false, ⟨by omega, fun h => by omega, fun _ h => by cases h⟩, fun _ => rfl, Nat.le_refl _⟩
  · simp [Value.cells] at hcs
    obtain ⟨rfl, rfl, rfl⟩ := hcs
    refine ⟨B, ⟨by unfold maxLen at hm; omega, fun _ => ⟨_, rfl⟩, fun y hy i hi => ?_⟩, fun h => (by cases h), hl⟩
    obtain rfl := Option.some.inj hy
    exact hcell i (by omega)
end

/- Six at most and 200 pages: who yields. -/
section
open Go.ChangeShapes Go.WideShapes Go.ChangeAt Go.RowKit
set_option linter.unusedVariables false
set_option linter.unusedSimpArgs false

def N6 : List ByteArray := [⟨#[97]⟩, ⟨#[98]⟩, ⟨#[99]⟩, ⟨#[100]⟩, ⟨#[101]⟩, ⟨#[102]⟩]
theorem N6_ok : ∀ n ∈ N6, 1 ≤ n.size ∧ n.size ≤ 16 := by decide
theorem N6_small : ∀ n ∈ N6, n.size ≤ maxLen := by decide
theorem N6_mem {i : Nat} (h : i < 6) : N6.getD i noText ∈ N6 := by
  have : i < N6.length := h
  simp [List.getD, this]
theorem N6_inj : ∀ i, i < 6 → ∀ j, j < 6 → N6.getD i noText = N6.getD j noText → i = j := by decide

/-- a pool of 200 pages and so many of at most 500 weights each -/
structure Y3 (wt : Nat → List Int) (n : Nat) (s : Pl) (L : List It) : Prop where
  mn : Mn s L
  n200 : s.n = 200
  len : L.length = n
  wl : ∀ x ∈ L, 1 ≤ x.W.length ∧ x.W.length ≤ 500
  here : ∀ i, i < n → ∃ x, look L (N6.getD i noText) = some x ∧ x.W = wt i

theorem rem_len1 {L : List It} (h : Nd L) {x : It} (hx : x ∈ L) : (rem L x.nm).length + 1 = L.length := by
  induction L with
  | nil => cases hx
  | cons y r ih =>
    obtain ⟨h1, h2⟩ := List.pairwise_cons.1 h
    by_cases e : y.nm = x.nm
    · have ey : y = x := mem_same h (by simp) hx e
      subst ey
      have er : rem (y :: r) y.nm = r := by
        unfold Ytfggkkhehaafcaa.rem
        rw [List.filter_cons_of_neg (by simp)]
        exact List.filter_eq_self.2 fun u hu => by have q : ¬ u.nm = y.nm := fun e => h1 u hu e.symm; simp [q]
      rw [er, List.length_cons]
    · have hx' : x ∈ r := by
        rcases List.mem_cons.1 hx with c | c
        · rw [c] at e
          exact absurd rfl e
        · exact c
      have er : rem (y :: r) x.nm = y :: rem r x.nm := by
        unfold Ytfggkkhehaafcaa.rem
        rw [List.filter_cons_of_pos (by simp [e])]
      rw [er, List.length_cons, List.length_cons, ih h2 hx']

theorem Y3.room {wt : Nat → List Int} {n cap : Nat} {s : Pl} {L : List It} (h : Y3 wt n s L) (hok : ShOk cap s L) (hn : n ≤ 6) : 100 ≤ hand s := by
  have h1 := sumP_few 16 (L := L) (fun x hx => by
    by_cases hi : x.is = true
    · have := (hok.on x hx hi).1.len
      have := (h.wl x hx).2
      omega
    · rw [(hok.off x hx (by simpa using hi)).1]
      exact Nat.zero_le _)
  have h2 := h.mn.sum
  rw [h.n200] at h2
  rw [h.len] at h1
  omega
theorem need_few {W : List Int} (h : W.length ≤ 500) : needZ W.length ≤ 16 := by
  rw [needZ_nat]
  omega

/-- nothing yields where there is room at hand -/
theorem Y3.pin_ {wt : Nat → List Int} {n cap : Nat} {s : Pl} {L : List It} (h : Y3 wt n s L) (hok : ShOk cap s L) (hn : n ≤ 6) {t : ByteArray} {x : It} (hx : look L t = some x) :
    pinE s L t = 0 ∧ pinP s L t = if x.is = true then (s, bump L x) else (placeS s (plus x.nm) x.W, bump L (laidIt s x)) := by
  obtain ⟨hm, hnm⟩ := look_some hx
  have hr := h.room hok hn
  have hw := need_few (h.wl x hm).2
  have hroom : ¬ roomZ s L < needZ x.W.length := by unfold roomZ; omega
  unfold pinE pinP
  rw [hx]
  simp only
  by_cases hi : x.is = true
  · rw [if_pos hi, if_pos hi, if_pos hi]
    exact ⟨rfl, rfl⟩
  · rw [if_neg hi, if_neg hi, if_neg hi, if_neg hroom, if_neg hroom, yieldsAll_stop (by omega)]
    exact ⟨rfl, rfl⟩

theorem bump_len {L : List It} (h : Nd L) {x y : It} (hx : x ∈ L) (e : y.nm = x.nm) : (bump L y).length = L.length := by
  unfold bump
  rw [List.length_append, e]
  have := rem_len1 h hx
  simp only [List.length_cons, List.length_nil]
  omega

theorem Y3.pin {wt : Nat → List Int} {n cap : Nat} {s : Pl} {L : List It} (h : Y3 wt n s L) (hok : ShOk cap s L) (hn : n ≤ 6) {i : Nat} (hi : i < n) :
    pinE s L (N6.getD i noText) = 0 ∧ Y3 wt n (pinP s L (N6.getD i noText)).1 (pinP s L (N6.getD i noText)).2 ∧ readE (pinP s L (N6.getD i noText)).1 (pinP s L (N6.getD i noText)).2 (N6.getD i noText) = 0 ∧ readV (pinP s L (N6.getD i noText)).1 (pinP s L (N6.getD i noText)).2 (N6.getD i noText) = wt i := by
  obtain ⟨x, hx, hxw⟩ := h.here i hi
  obtain ⟨hm, hnm⟩ := look_some hx
  obtain ⟨e0, e1⟩ := h.pin_ hok hn hx
  have hmn := h.mn.pin hok (N6.getD i noText)
  have hok' := hok.pin (N6.getD i noText)
  obtain ⟨T, eT⟩ : ∃ T, N6.getD i noText = T := ⟨_, rfl⟩
  rw [eT] at hx hnm e0 e1 hmn hok' ⊢
  -- either way one with the same name and weights stands at the end
  have key : ∃ x' : It, x'.nm = x.nm ∧ x'.W = x.W ∧ x'.is = true ∧ (pinP s L T).2 = bump L x' ∧ (pinP s L T).1.n = s.n := by
    by_cases hs : x.is = true
    · rw [if_pos hs] at e1
      exact ⟨x, rfl, rfl, hs, by rw [e1], by rw [e1]⟩
    · rw [if_neg hs] at e1
      have hp : placeE s (plus x.nm) x.W = 0 := by
        have hr := h.room hok hn
        have hw := need_few (h.wl x hm).2
        have := pin_place hok (x := x) (show ¬ roomZ s L < needZ x.W.length by unfold roomZ; omega)
        rw [yieldsAll_stop (by omega)] at this
        exact this
      exact ⟨laidIt s x, rfl, rfl, rfl, by rw [e1], by rw [e1]; exact (placed hok.good _ _ hp).2.1⟩
  obtain ⟨x', k1, k2, k3, k4, k5⟩ := key
  have hl : look (pinP s L T).2 T = some { x' with pins := x'.pins + 1 } := by rw [k4, look_bump, if_pos (by rw [k1]; exact hnm.symm)]
  obtain ⟨r1, r2⟩ := hok'.read hl k3
  refine ⟨e0, ⟨hmn, by rw [k5]; exact h.n200, by rw [k4, bump_len hok.nd hm k1]; exact h.len, fun y hy => ?_, fun j hj => ?_⟩, r1, by rw [r2]; show x'.W = _; rw [k2]; exact hxw⟩
  · rw [k4] at hy
    rcases bump_mem hy with ⟨hy, _⟩ | rfl
    · exact h.wl y hy
    · show 1 ≤ x'.W.length ∧ x'.W.length ≤ 500
      rw [k2]
      exact h.wl x hm
  · rw [k4, look_bump]
    by_cases c : N6.getD j noText = x'.nm
    · rw [if_pos c]
      refine ⟨_, rfl, ?_⟩
      show x'.W = _
      rw [k2, hxw]
      have : j = i := N6_inj j (by omega) i (by omega) (by rw [c, k1, hnm, eT])
      rw [this]
    · rw [if_neg c]
      exact h.here j hj

/-- .. and these are loose, in this order; the others are still to come -/
structure Y1 (wt : Nat → List Int) (n : Nat) (s : Pl) (L : List It) (ord : List ByteArray) : Prop where
  y3 : Y3 wt n s L
  new : ∀ i, n ≤ i → i < 6 → look L (N6.getD i noText) = none
  ord : (L.filter loose).map (fun x => x.nm) = ord

theorem y1_start (wt : Nat → List Int) : Y1 wt 0 (newPl 200) [] [] :=
  ⟨⟨mn_new 200, rfl, rfl, fun x hx => (by cases hx), fun i hi => by omega⟩, fun i _ _ => rfl, rfl⟩

/-- one more is put, pinned, and perhaps unpinned -/
theorem Y1.next {wt : Nat → List Int} {n cap : Nat} {s : Pl} {L : List It} {ord : List ByteArray} (h : Y1 wt n s L ord) (hok : ShOk cap s L) (hn : n < 6) (hw : 1 ≤ (wt n).length ∧ (wt n).length ≤ 500) (hwf : ∀ z ∈ wt n, (Lit.int .i8 z).wf = true) :
    putE L (N6.getD n noText) = 0 ∧ pinE s (putL L (N6.getD n noText) (wt n)) (N6.getD n noText) = 0 ∧
      Y1 wt (n + 1) (pinP s (putL L (N6.getD n noText) (wt n)) (N6.getD n noText)).1 (pinP s (putL L (N6.getD n noText) (wt n)) (N6.getD n noText)).2 ord ∧
      unpE (pinP s (putL L (N6.getD n noText) (wt n)) (N6.getD n noText)).2 (N6.getD n noText) = 0 ∧
      Y1 wt (n + 1) (pinP s (putL L (N6.getD n noText) (wt n)) (N6.getD n noText)).1 (unpL (pinP s (putL L (N6.getD n noText) (wt n)) (N6.getD n noText)).2 (N6.getD n noText)) (ord ++ [N6.getD n noText]) := by
  have hnone := h.new n (Nat.le_refl _) hn
  have hsz := N6_ok _ (N6_mem hn)
  have p0 : putE L (N6.getD n noText) = 0 := by
    unfold putE
    rw [if_neg (by omega), hnone]
  have p1 : putL L (N6.getD n noText) (wt n) = L ++ [⟨N6.getD n noText, wt n, [], false, 0⟩] := by unfold putL; rw [if_pos p0]
  have hok1 := hok.put (N6.getD n noText) (wt n) (by omega) hwf
  have hinj := fun j (hj : j < 6) (e : N6.getD j noText = N6.getD n noText) => N6_inj j hj n hn e
  have hmn1 := h.y3.mn.put (N6.getD n noText) (wt n)
  obtain ⟨T, eT⟩ : ∃ T, N6.getD n noText = T := ⟨_, rfl⟩
  rw [eT] at hnone p0 p1 hok1 hinj hmn1 ⊢
  have hnew := look_none hnone
  have y1 : Y3 wt (n + 1) s (putL L T (wt n)) := by
    refine ⟨hmn1, h.y3.n200, ?_, fun x hx => ?_, fun j hj => ?_⟩
    · rw [p1, List.length_append, h.y3.len]
      rfl
    · rw [p1] at hx
      rcases List.mem_append.1 hx with hx | hx
      · exact h.y3.wl x hx
      · rw [List.mem_singleton.1 hx]
        exact hw
    · rw [p1, look_snoc L _ _ hnew]
      by_cases c : N6.getD j noText = T
      · rw [if_pos c]
        exact ⟨_, rfl, by rw [hinj j (by omega) c]⟩
      · rw [if_neg c]
        have hjn : j < n := by
          rcases Nat.lt_or_ge j n with e | e
          · exact e
          · have : j = n := by omega
            subst this
            exact absurd eT c
        exact h.y3.here j hjn
  have hlk : look (putL L T (wt n)) T = some ⟨T, wt n, [], false, 0⟩ := by rw [p1, look_snoc L _ _ hnew, if_pos rfl]
  obtain ⟨e0, e1⟩ := y1.pin_ hok1 (by omega) hlk
  rw [if_neg (by simp)] at e1
  simp only at e1
  have y2 := (y1.pin hok1 (by omega) (i := n) (by omega)).2.1
  rw [eT] at y2
  have hrem : rem (putL L T (wt n)) T = L := by
    rw [p1]
    unfold Ytfggkkhehaafcaa.rem
    rw [List.filter_append, List.filter_eq_self.2 (fun u hu => by have q : ¬ u.nm = T := hnew u hu; simp [q]), List.filter_cons_of_neg (by simp)]
    simp
  have hnewL : ∀ (L' : List It), (∀ m, m ≠ T → look L' m = look (putL L T (wt n)) m) → ∀ j, n + 1 ≤ j → j < 6 → look L' (N6.getD j noText) = none := fun L' hL' j hj hj6 => by
    have c : N6.getD j noText ≠ T := fun c => by have := hinj j hj6 c; omega
    rw [hL' _ c, p1, look_snoc L _ _ hnew, if_neg c]
    exact h.new j (by omega) hj6
  obtain ⟨x', ex'⟩ : ∃ x', laidIt s ⟨T, wt n, [], false, 0⟩ = x' := ⟨_, rfl⟩
  have x1 : x'.nm = T := by rw [← ex']; rfl
  have x2 : x'.pins = 0 := by rw [← ex']; rfl
  have x3 : x'.is = true := by rw [← ex']; rfl
  rw [ex'] at e1
  have eb : bump (putL L T (wt n)) x' = L ++ [{ x' with pins := 1 }] := by
    unfold bump
    rw [x1, hrem, x2]
  obtain ⟨u1, u2⟩ := chg_less_back (L := putL L T (wt n)) x2 T x1
  have hq2 : (pinP s (putL L T (wt n)) T).2 = bump (putL L T (wt n)) x' := by rw [e1]
  refine ⟨p0, e0, ⟨y2, hnewL _ (fun m hm => by rw [hq2, look_bump, if_neg (by rw [x1]; exact hm)]), ?_⟩, by rw [hq2]; exact u1, ⟨?_, ?_, ?_⟩⟩
  · rw [hq2, eb, List.filter_append, List.map_append, h.ord, List.filter_cons_of_neg (by simp [loose])]
    simp
  · rw [hq2, u2, hrem]
    have hun := y2.mn.unpin T
    rw [hq2] at hun
    have hul : unpL (bump (putL L T (wt n)) x') T = L ++ [x'] := by rw [u2, hrem]
    rw [hul] at hun
    rw [hq2, eb] at y2
    refine ⟨hun, y2.n200, ?_, fun y hy => ?_, fun j hj => ?_⟩
    · have := y2.len
      rw [List.length_append] at this ⊢
      exact this
    · rcases List.mem_append.1 hy with hy | hy
      · exact y2.wl y (List.mem_append_left _ hy)
      · rw [List.mem_singleton.1 hy]
        exact y2.wl { x' with pins := 1 } (List.mem_append_right _ (List.mem_singleton.2 rfl))
    · obtain ⟨v, hv, hvw⟩ := y2.here j hj
      have hnx : ∀ y ∈ L, y.nm ≠ x'.nm := fun y hy => by rw [x1]; exact hnew y hy
      rw [look_snoc L { x' with pins := 1 } _ hnx] at hv
      rw [look_snoc L x' _ hnx]
      simp only at hv
      by_cases c : N6.getD j noText = x'.nm
      · rw [if_pos c] at hv ⊢
        refine ⟨x', rfl, ?_⟩
        rw [← hvw, ← Option.some.inj hv]
      · rw [if_neg c] at hv ⊢
        exact ⟨v, hv, hvw⟩
  · refine hnewL _ (fun m hm => ?_)
    rw [hq2, u2, hrem, look_snoc L _ _ (fun y hy => by rw [x1]; exact hnew y hy), if_neg (by rw [x1]; exact hm), p1, look_snoc L _ _ hnew, if_neg hm]
  · rw [hq2, u2, hrem, List.filter_append, List.map_append, h.ord, List.filter_cons_of_pos (loose_of x3 x2)]
    simp [x1]

/-- the first of these yields -/
theorem Y1.yield {wt : Nat → List Int} {n cap : Nat} {s : Pl} {L : List It} {t : ByteArray} {ord : List ByteArray} (h : Y1 wt n s L (t :: ord)) (hok : ShOk cap s L) :
    yieldB L = true ∧ Y1 wt n (yieldP s L).1 (yieldP s L).2 ord ∧ cntTo (yieldP s L).1.pg (plus t) (yieldP s L).1.n = 0 ∧ freeTo s.pg s.n < freeTo (yieldP s L).1.pg (yieldP s L).1.n ∧ readE (yieldP s L).1 (yieldP s L).2 t = 27 ∧ t.size ≤ 16 := by
  have ho := h.ord
  obtain ⟨x, r, hfx⟩ : ∃ x r, L.filter loose = x :: r := by
    cases e : L.filter loose with
    | nil => rw [e] at ho; cases ho
    | cons x r => exact ⟨x, r, rfl⟩
  rw [hfx] at ho
  simp only [List.map_cons, List.cons.injEq] at ho
  obtain ⟨hxt, hr⟩ := ho
  have hf : L.find? loose = some x := by
    have := List.head?_filter (p := loose) (l := L)
    rw [hfx] at this
    exact this.symm
  obtain ⟨x1, x2, x3⟩ := find_loose hf
  have e1 : yieldB L = true := by unfold yieldB; rw [hf]; rfl
  have e2 : yieldP s L = (relS s x.P, rel L x.nm) := by unfold yieldP; rw [hf]
  have hmn := h.y3.mn.release hok x1
  have hok' := hok.release x1 x3
  obtain ⟨a0, a1, a2, a3, a4, a5⟩ := relS_owned (hok.owned x1)
  have hlen := (hok.on x x1 x2).1.len
  have hwl := (h.y3.wl x x1).1
  have hlg : look (rel L x.nm) x.nm = some (gone x) := by unfold rel; rw [look_chg gone gone_nm, if_pos rfl, look_mem hok.nd x1]; rfl
  rw [e2]
  simp only
  refine ⟨e1, ⟨⟨hmn, by rw [a1]; exact h.y3.n200, by unfold rel; rw [chg_len]; exact h.y3.len, fun y hy => ?_, fun j hj => ?_⟩, fun j hj hj6 => ?_, ?_⟩, ?_, ?_, ?_, ?_⟩
  · obtain ⟨u, hu, ⟨_, rfl⟩ | ⟨_, rfl⟩⟩ := chg_mem _ _ hy
    · exact h.y3.wl u hu
    · exact h.y3.wl y hu
  · obtain ⟨v, hv, hvw⟩ := h.y3.here j hj
    unfold rel
    rw [look_chg gone gone_nm, hv]
    split
    · exact ⟨gone v, rfl, hvw⟩
    · exact ⟨v, rfl, hvw⟩
  · unfold rel
    rw [look_chg gone gone_nm, h.new j hj hj6]
    split <;> rfl
  · -- without the first one
    have hcount := (looseP_rel hok.nd x1 (loose_of x2 x3)).2
    have hsub : ∀ (M : List It), Nd M → (∀ y ∈ M, y.nm = x.nm → y = x) → ∀ (M' : List It), M.filter loose = x :: M' → (rel M x.nm).filter loose = M' := by
      intro M
      induction M with
      | nil => intro _ _ M' e; cases e
      | cons y q ih =>
        intro hnd hu M' e
        obtain ⟨n1, n2⟩ := List.pairwise_cons.1 hnd
        have er : rel (y :: q) x.nm = (if y.nm = x.nm then gone y else y) :: rel q x.nm := rfl
        rw [er]
        by_cases c : y.nm = x.nm
        · have ey := hu y (by simp) c
          subst ey
          rw [if_pos rfl, List.filter_cons_of_neg (by simp [loose, gone])]
          rw [List.filter_cons_of_pos (loose_of x2 x3)] at e
          have hq : rel q y.nm = q := chg_none gone y.nm q (fun u hu c => n1 u hu c.symm)
          rw [hq]
          exact (List.cons.inj e).2
        · rw [if_neg c]
          by_cases b : loose y = true
          · rw [List.filter_cons_of_pos b] at e
            exact absurd (by rw [(List.cons.inj e).1]) c
          · rw [List.filter_cons_of_neg b] at e ⊢
            exact ih n2 (fun u hu' => hu u (by simp [hu'])) M' e
    rw [hsub L hok.nd (fun y hy e => mem_same hok.nd hy x1 e) r hfx]
    exact hr
  · refine cnt_zero _ _ _ fun z hz hc => ?_
    obtain ⟨it, hit, hzi⟩ := hmn.cover z hz (by omega)
    have hb : it.is = true := by
      cases e : it.is with
      | true => rfl
      | false => rw [(hok'.off it hit e).1] at hzi; cases hzi
    have htag := (hok'.on it hit hb).2 _ hzi
    rw [Int.toNat_natCast] at htag
    have e := hc.2
    rw [htag, ByteArray.toList_eq, ByteArray.toList_eq] at e
    have e3 := plus_inj (ByteArray.ext (Array.toList_inj.1 e))
    rw [← hxt] at e3
    have := look_eq hok'.nd hit e3
    rw [hlg] at this
    rw [← Option.some.inj this] at hzi
    cases hzi
  · rw [a1, a5]
    omega
  · unfold readE
    rw [← hxt, hlg]
    simp [gone]
  · rw [← hxt]
    exact (hok.nm x x1).2
theorem Y1.stop {wt : Nat → List Int} {n : Nat} {s : Pl} {L : List It} (h : Y1 wt n s L []) : yieldB L = false ∧ yieldP s L = (s, L) := by
  have ho := h.ord
  have hf : L.find? loose = none := by
    have := List.head?_filter (p := loose) (l := L)
    rw [List.map_eq_nil_iff.1 ho] at this
    exact this.symm
  exact ⟨by unfold yieldB; rw [hf]; rfl, by unfold yieldP; rw [hf]⟩
end

/- Rows beside the shelf while it yields. -/
section
open Go.ChangeShapes Go.WideShapes Go.ChangeAt Go.RowKit
set_option linter.unusedVariables false
set_option linter.unusedSimpArgs false

theorem lit6 (w : World) : ReadT (w.alloc (.cells (N6.map Value.string).toArray 9)) (some ⟨w.heap.size, 0, none⟩) 6 N6 ∧ Row 9 (w.alloc (.cells (N6.map Value.string).toArray 9)) w.heap.size 6 := by
  have hn := heap_alloc_new w (.cells (N6.map Value.string).toArray 9)
  refine ⟨⟨rfl, by decide, fun _ => ⟨_, rfl⟩, fun x hx i hi => ?_⟩, ⟨_, hn, rfl⟩⟩
  obtain rfl := Option.some.inj hx
  rw [add_off]
  unfold World.cell?
  rw [hn]
  simp only [List.getElem?_toArray]
  exact texts_at N6 i hi

/-- the weights that are put at a place -/
def sizeM (z0 : List Int) (i : Nat) : Nat := (IntKind.u64.wrap (z0.getD i 0) % 500).toNat
def wtOf (z0 : List Int) (i : Nat) : List Int := (i : Int) :: List.replicate (sizeM z0 i) 0
theorem sizeM_lt (z0 : List Int) (i : Nat) : sizeM z0 i < 500 ∧ (IntKind.u64.wrap (z0.getD i 0)).tmod 500 = (sizeM z0 i : Int) := by
  obtain ⟨M, hM, (m1 : (IntKind.u64.wrap (z0.getD i 0)).tmod 500 = (M : Int)), (m2 : IntKind.u64.wrap (z0.getD i 0) % 500 = (M : Int))⟩ := restN (z0.getD i 0) 500 (by decide)
  unfold sizeM
  rw [m2]
  exact ⟨hM, m1⟩
theorem wtOf_len (z0 : List Int) (i : Nat) : (wtOf z0 i).length = sizeM z0 i + 1 := by simp [wtOf]
theorem wtOf_wf (z0 : List Int) (i : Nat) (hi : i < 6) : ∀ z ∈ wtOf z0 i, (Lit.int .i8 z).wf = true := fun z hz => by
  rcases List.mem_cons.1 hz with rfl | hz
  · exact wf_i8 (by omega) (by omega)
  · rw [List.eq_of_mem_replicate hz]
    decide
theorem wtOf_at (z0 : List Int) (i j : Nat) (hj : j ≠ 0) : (wtOf z0 i).getD j 0 = 0 := by
  unfold wtOf
  cases j with
  | zero => exact absurd rfl hj
  | succ j =>
    simp only [List.getD, List.getElem?_cons_succ, List.getElem?_replicate]
    split <;> rfl

def zeroB (q : Nat) : Obj := .cells (madeCells #[.int .i8 0] q) 59
theorem madeB (q : Nat) (hq : q ≤ 1000) (w : World) : (Instr.makeSlice 37 (.int .i64 (q : Int)) (.int .i64 (q : Int))).run Try.prog w = .ok (.slice (some ⟨w.heap.size, 0, none⟩) q q) (w.alloc (zeroB q)) :=
  run_make_row' 37 59 (.int .i8 0) 1 Try.underlying37 info59 rfl .i64 .i64 q (by omega) (by omega) w
theorem zeroB_at (w : World) (q j : Nat) (hj : j < q) : (w.alloc (zeroB q)).cell? ⟨w.heap.size, j, none⟩ = some (.int .i8 0) := by
  have e : (w.alloc (zeroB q)).heap[w.heap.size]? = some (zeroB q) := heap_alloc_new w (zeroB q)
  unfold World.cell?
  rw [e]
  simp [zeroB, madeCells, hj, Nat.mod_one]
theorem zeroB_row (w : World) (q : Nat) : Row 59 (w.alloc (zeroB q)) w.heap.size q := ⟨_, heap_alloc_new w (zeroB q), by rw [size_madeCells]⟩
theorem wt_reads (w : World) (z0 : List Int) (i q : Nat) (hi : i < 6) (hq : q = sizeM z0 i + 1) (hq' : q ≤ 1000) : Reads .i8 ((w.alloc (zeroB q)).setCell ⟨w.heap.size, 0, none⟩ (.int .i8 (i : Int))) (some ⟨w.heap.size, 0, none⟩) q (wtOf z0 i) := by
  refine Reads.of_row (by rw [wtOf_len, hq]) (by omega) (wtOf_wf z0 i hi) fun j hj => ?_
  rw [add_off]
  by_cases c : j = 0
  · subst c
    exact World.cell?_setCell_same _ _ _ (zeroB_at w q 0 (by omega))
  · rw [World.cell?_setCell_other _ _ _ _ (by simp <;> omega), zeroB_at w q j hj, wtOf_at z0 i j c]

/-- a text laid behind a row of the law's own leaves the shelf as it was -/
theorem Sf.append9 {B : Nat} {w w' : World} {x mb b g : Nat} {a oa : Option Addr} {s : Pl} {L : List It} {cap : Nat} (h : Sf B w x mb b g a s L cap) (o : OffS B (fun _ => false) (blkOf oa) w w') (ap : Ap9 w oa a) : Sf B w' x mb b g a s L cap := by
  refine h.keep (fun i t hi ht hT => o.block i hi (.inr ⟨fun hb => ?_, fun _ _ => rfl⟩)) (o.block mb h.mapLt.2.1 (.inr ⟨fun hb => ?_, fun _ _ => rfl⟩)) (fun i hi => o.block i (h.ordLt hi).2.1 (.inr ⟨fun hb => (ap i hb).1 hi, fun _ _ => rfl⟩))
  · obtain ⟨_, m, r⟩ := ap i hb
    rw [r.type] at ht
    obtain rfl := Option.some.inj ht
    cases hT
  · obtain ⟨_, m, r⟩ := ap mb hb
    have := h.mapLt.2.2
    rw [r.type] at this
    cases this

/-- the shelf, the names' row, and the row of those that are loose -/
structure YP (B : Nat) (w : World) (x mb b g : Nat) (Y : Addr) (NN : List ByteArray) (oa : Option Addr) (ol oc : Nat) (ord : List ByteArray) (a : Option Addr) (s : Pl) (L : List It) (cap : Nat) (wr : World) : Prop where
  sf : Sf B wr x mb b g a s L cap
  row : RowT B wr oa ol oc ord
  ap : Ap9 wr oa a
  apY : Ap9 wr (some Y) a
  nm : ReadT wr (some Y) NN.length NN
  apart : ∀ i, blkOf oa i → i ≠ Y.block
  bel : Below B w wr
theorem YP.below {B : Nat} {w : World} {x mb b g : Nat} {Y : Addr} {NN : List ByteArray} {oa : Option Addr} {ol oc : Nat} {ord : List ByteArray} {a : Option Addr} {s : Pl} {L : List It} {cap : Nat} {wr W : World} (h : YP B w x mb b g Y NN oa ol oc ord a s L cap wr) (hb : Below wr.heap.size wr W) : YP B w x mb b g Y NN oa ol oc ord a s L cap W :=
  ⟨h.sf.below hb, h.row.below hb, h.ap.below hb, h.apY.below hb, h.nm.below hb, h.apart, h.bel.trans (hb.mono h.sf.lt)⟩
theorem YP.step {B : Nat} {w : World} {x mb b g : Nat} {Y : Addr} {NN : List ByteArray} {oa : Option Addr} {ol oc : Nat} {ord : List ByteArray} {a a' : Option Addr} {s s' : Pl} {L L' : List It} {cap cap' : Nat} {wr W : World} (h : YP B w x mb b g Y NN oa ol oc ord a s L cap wr) (hs : Sf B W x mb b g a' s' L' cap') (o : OffS B TS (SS mb a) wr W) (ha : ∀ k, blkOf a' k → blkOf a k ∨ wr.heap.size ≤ k) : YP B w x mb b g Y NN oa ol oc ord a' s' L' cap' W := by
  obtain ⟨q1, q2⟩ := h.ap.kept h.sf o ha
  obtain ⟨q3, q4⟩ := h.apY.kept h.sf o ha
  exact ⟨hs, h.row.keep q2, q1, q3, h.nm.kept q4, h.apart, h.bel.trans (o.below h.sf.lt)⟩
theorem YP.app {B : Nat} {w : World} {x mb b g : Nat} {Y : Addr} {NN : List ByteArray} {oa : Option Addr} {ol oc : Nat} {ord : List ByteArray} {a : Option Addr} {s : Pl} {L : List It} {cap : Nat} {wr : World} (h : YP B w x mb b g Y NN oa ol oc ord a s L cap wr) (t : ByteArray) (hl : ol ≤ 1000) :
    ∃ oa' oc' W, (Builtin.append_ #[46, 46] 46 #[.slice oa ol oc, .slice (some ⟨wr.heap.size, 0, none⟩) 1 1]).run Try.prog (wr.alloc (.cells #[.string t] 9)) = .ok (.slice oa' (ol + 1) oc') W ∧ YP B w x mb b g Y NN oa' (ol + 1) oc' (ord ++ [t]) a s L cap W := by
  obtain ⟨oa', oc', W, hr, hrow, o, hb⟩ := run_append_text h.row t (by omega) h.sf.lt 46
  obtain ⟨_, mY, rY⟩ := h.apY Y.block ⟨Y, rfl, rfl⟩
  have kb : ∀ k, k < wr.heap.size → ¬ blkOf oa k → W.heap[k]? = wr.heap[k]? := fun k hk hn => o.block k hk (.inr ⟨hn, fun _ _ => rfl⟩)
  have eY : ∀ k, blkOf (some Y) k → W.heap[k]? = wr.heap[k]? := fun k hk => by
    obtain ⟨y, hy, rfl⟩ := hk
    obtain rfl := Option.some.inj hy
    exact kb _ rY.lt (fun hb => h.apart _ hb rfl)
  refine ⟨oa', oc', W, hr, ⟨h.sf.append9 o h.ap, hrow, fun k hk => ?_, fun k hk => ?_, h.nm.kept eY, fun k hk => ?_, h.bel.trans (o.below h.sf.lt)⟩⟩
  · obtain ⟨_, m, r⟩ := own_blk hrow.own hk
    refine ⟨fun ha => ?_, m, r⟩
    rcases hb k hk with e | e
    · exact (h.ap k e).1 ha
    · have := (h.sf.ordLt ha).2.1
      omega
  · obtain ⟨h1, m, r⟩ := h.apY k hk
    exact ⟨h1, m, r.of_block (eY k hk)⟩
  · rcases hb k hk with e | e
    · exact h.apart k e
    · have := rY.lt
      omega

/-- while they are put -/
structure YI1 (B : Nat) (w : World) (x mb b g : Nat) (Y : Addr) (wt : Nat → List Int) (k cap : Nat) (oa : Option Addr) (ol oc : Nat) (wr : World) : Prop where
  st : ∃ a s L ord, YP B w x mb b g Y N6 oa ol oc ord a s L cap wr ∧ Y1 wt k s L ord
/-- while they yield -/
structure YI2 (B : Nat) (w : World) (x mb b g : Nat) (Y : Addr) (wt : Nat → List Int) (k cap : Nat) (oa : Option Addr) (ol : Nat) (wr : World) : Prop where
  st : ∃ a s L ord, Sf B wr x mb b g a s L cap ∧ Y1 wt k s L ord ∧ ReadT wr oa ol ord ∧ Ap9 wr oa a ∧ Ap9 wr (some Y) a
  nm : ReadT wr (some Y) 6 N6
  bel : Below B w wr
theorem off1 (gb o : Nat) : (⟨gb, o, none⟩ : Addr).add 1 = ⟨gb, o + 1, none⟩ := by simp [Addr.add]
theorem off0 (gb o : Nat) : (⟨gb, o, none⟩ : Addr).add 0 = ⟨gb, o, none⟩ := by simp [Addr.add]
/-- one yields: what is told, and what stands behind it -/
theorem YI2.round {B : Nat} {w : World} {x mb b g : Nat} {Y : Addr} {wt : Nat → List Int} {k cap J gb o : Nat} {wr : World} (h : YI2 B w x mb b g Y wt k cap (some ⟨gb, o, none⟩) (J + 1) wr) (hc : cap ≤ 900) :
    ∃ (t : ByteArray) (N0 F0 A0 N1 F1 A1 : Int), F0 < F1 ∧ 0 ≤ F0 ∧ F1 ≤ 256 ∧ wr.cell? ⟨gb, o, none⟩ = some (.string t) ∧ t.size ≤ 16 ∧
      (Calls Try.prog 27 #[.pointer (some ⟨b, 0, none⟩)] wr fun e W => e = .returned (.tuple #[.int .i64 N0, .int .i64 F0, .int .i64 A0]) ∧ ∃ m, W = wr.drewN m) ∧
      (∀ m, Calls Try.prog 28 #[.pointer (some ⟨x, 0, none⟩)] (wr.drewN m) fun e W2 => e = .returned (.bool true) ∧ W2.cell? ⟨gb, o, none⟩ = some (.string t) ∧
        (Calls Try.prog 29 #[.pointer (some ⟨b, 0, none⟩), .string (plus t)] W2 fun e W => e = .returned (.int .i64 0) ∧ W = W2) ∧
        (Calls Try.prog 27 #[.pointer (some ⟨b, 0, none⟩)] W2 fun e W => e = .returned (.tuple #[.int .i64 N1, .int .i64 F1, .int .i64 A1]) ∧ ∃ m, W = W2.drewN m) ∧
        (∀ m, (W2.drewN m).cell? ⟨gb, o, none⟩ = some (.string t) ∧ Calls Try.prog 11 #[.pointer (some ⟨x, 0, none⟩), .string t] (W2.drewN m) fun e W3 => ∃ a' l' c', e = .returned (.tuple #[.slice a' l' c', .int .i64 27]) ∧ YI2 B w x mb b g Y wt k cap (some ⟨gb, o + 1, none⟩) J W3 ∧ (J = 0 → YI2 B w x mb b g Y wt k cap (some ⟨gb, o, none⟩) 0 W3))) := by
  obtain ⟨a, s, L, ord, sf, y1, rt, ap, apY⟩ := h.st
  have hol := rt.len
  cases ord with
  | nil => simp at hol
  | cons t rest =>
    have hol' : rest.length = J := by simpa using hol
    obtain ⟨v1, v2, v3, v4, v5, v6⟩ := y1.yield sf.ok
    have c0 := rt.cell _ rfl 0 (by omega)
    rw [off0] at c0
    have hG := sf.ok.good
    have hsz : t.size ≤ maxLen := by unfold maxLen; omega
    have hG' := sf.ok.yield.good
    have hf1 := freeTo_le (yieldP s L).1.pg (yieldP s L).1.n
    have hn1 := hG'.n1
    refine ⟨t, s.n, freeTo s.pg s.n, s.aside, (yieldP s L).1.n, freeTo (yieldP s L).1.pg (yieldP s L).1.n, (yieldP s L).1.aside, by omega, by omega, by omega, c0, v6, sizes_call sf.pool hG.n1, fun m => ?_⟩
    have kY := sf_yield (sf.drewN m) hc
    rw [v1] at kY
    refine kY.mono ?_
    rintro e W2 ⟨rfl, s2, o2⟩
    obtain ⟨q1, q2⟩ := (ap.drewN m).kept (sf.drewN m) o2 (fun _ h => .inl h)
    obtain ⟨q3, q4⟩ := (apY.drewN m).kept (sf.drewN m) o2 (fun _ h => .inl h)
    have rt2 : ReadT W2 (some ⟨gb, o, none⟩) (J + 1) (t :: rest) := (rt.drewN m).kept q2
    have nm2 := (h.nm.drewN m).kept q4
    have b2 : Below B w W2 := (below_drew h.bel ⟨m, rfl⟩ : Below B w (wr.drewN m)).trans (o2.below sf.lt)
    have c2 := rt2.cell _ rfl 0 (by omega)
    rw [off0] at c2
    refine ⟨rfl, c2, ?_, sizes_call s2.pool hn1, fun m2 => ⟨c2, ?_⟩⟩
    · have := count_call s2.pool hn1 (plus t)
      rw [v3] at this
      exact this
    · have kR := sf_read (s2.drewN m2) hc t hsz
      rw [v5] at kR
      refine kR.mono ?_
      rintro e W3 ⟨a', l', c', rfl, _, hb3⟩
      have hd := rt2.drop 1 (by omega)
      rw [off1] at hd
      have hap : Ap9 W2 (some ⟨gb, o + 1, none⟩) a := fun i hi => by
        obtain ⟨y, hy, rfl⟩ := hi
        obtain rfl := Option.some.inj hy
        exact q1 gb ⟨_, rfl, rfl⟩
      have s3 := (s2.drewN m2).below hb3
      have b3 : Below B w W3 := (below_drew b2 ⟨m2, rfl⟩ : Below B w (W2.drewN m2)).trans (hb3.mono s2.lt)
      have nm3 := (nm2.drewN m2).below hb3
      refine ⟨a', l', c', rfl, ⟨⟨a, _, _, rest, s3, v2, (hd.drewN m2).below hb3, (hap.drewN m2).below hb3, (q3.drewN m2).below hb3⟩, nm3, b3⟩, fun hJ => ?_⟩
      subst hJ
      obtain rfl : rest = [] := List.eq_nil_of_length_eq_zero hol'
      exact ⟨⟨a, _, _, [], s3, v2, ⟨rfl, by omega, fun h => by omega, fun _ _ i hi => by omega⟩, (q1.drewN m2).below hb3, (q3.drewN m2).below hb3⟩, nm3, b3⟩
/-- while they are pinned again -/
structure YI3 (B : Nat) (w : World) (x mb b g : Nat) (Y : Addr) (wt : Nat → List Int) (k cap : Nat) (wr : World) : Prop where
  st : ∃ a s L, Sf B wr x mb b g a s L cap ∧ Y3 wt k s L ∧ Ap9 wr (some Y) a
  nm : ReadT wr (some Y) 6 N6
  bel : Below B w wr

theorem reads_first {w : World} {y : Addr} {q : Nat} {z : Int} {zs : List Int} (h : Reads .i8 w (some y) q (z :: zs)) : Reads .i8 w (some y) 1 [z] := by
  have hl := h.len
  simp only [List.length_cons] at hl
  refine Reads.of_row rfl (by omega) (fun u hu => h.wf_mem u (by rw [List.mem_singleton.1 hu]; simp)) fun i hi => ?_
  have := h.cell y rfl i (by omega)
  obtain rfl : i = 0 := by omega
  simpa using this
theorem YI3.round {B : Nat} {w : World} {x mb b g : Nat} {Y : Addr} {z0 : List Int} {k cap j : Nat} {wr : World} (h : YI3 B w x mb b g Y (wtOf z0) k cap wr) (hc : cap ≤ 890) (hk : k ≤ 6) (hj : j < k) :
    ∃ t, wr.cell? (Y.add j) = some (.string t) ∧ Calls Try.prog 24 #[.pointer (some ⟨x, 0, none⟩), .string t] wr fun e W => e = .returned (.int .i64 0) ∧ W.cell? (Y.add j) = some (.string t) ∧
      Calls Try.prog 11 #[.pointer (some ⟨x, 0, none⟩), .string t] W fun e W3 => ∃ y c', e = .returned (.tuple #[.slice (some y) (sizeM z0 j + 1) c', .int .i64 0]) ∧ sizeM z0 j + 1 ≤ c' ∧ c' ≤ 9223372036854775807 ∧ Reads .i8 W3 (some y) 1 [(j : Int)] ∧ YI3 B w x mb b g Y (wtOf z0) k (cap + 1) W3 := by
  obtain ⟨a, s, L, sf, y3, apY⟩ := h.st
  have hsz := N6_small _ (N6_mem (show j < 6 by omega))
  obtain ⟨p0, p1, p2, p3⟩ := y3.pin sf.ok hk hj
  have c0 := h.nm.cell Y rfl j (by omega)
  refine ⟨_, c0, ?_⟩
  have kN := sf_pin sf (by omega) _ hsz
  rw [p0] at kN
  refine kN.mono ?_
  rintro e W ⟨rfl, ⟨a', s', ha⟩, o'⟩
  obtain ⟨q3, q4⟩ := apY.kept sf o' ha
  have nm' := h.nm.kept q4
  refine ⟨rfl, nm'.cell Y rfl j (by omega), ?_⟩
  have kR := sf_read s' (by omega) _ hsz
  rw [p2, p3] at kR
  refine kR.mono ?_
  rintro e W3 ⟨ra, rl, rc, rfl, rr, hb⟩
  have hl := rr.len
  rw [wtOf_len] at hl
  obtain ⟨y, hy⟩ := rr.reads.some_ (by omega)
  subst hy
  subst hl
  have b2 : Below B w W := h.bel.trans (o'.below sf.lt)
  refine ⟨y, rc, rfl, own_cap rr.own, ?_, reads_first rr.reads, ⟨⟨a', _, _, s'.below hb, p1, q3.below hb⟩, nm'.below hb, b2.trans (hb.mono s'.lt)⟩⟩
  rcases rr.own.2 with ⟨h1, _⟩ | ⟨g', cap', cur, h1, h2, h3, h4, h5, _⟩
  · cases h1
  · simp only [Value.slice.injEq] at h1
    unfold maxLen at h5
    omega
theorem YI3.below {B : Nat} {w : World} {x mb b g : Nat} {Y : Addr} {wt : Nat → List Int} {k cap : Nat} {wr W : World} (h : YI3 B w x mb b g Y wt k cap wr) (hb : Below wr.heap.size wr W) : YI3 B w x mb b g Y wt k cap W := by
  obtain ⟨a, s, L, sf, y3, apY⟩ := h.st
  exact ⟨⟨a, s, L, sf.below hb, y3, apY.below hb⟩, h.nm.below hb, h.bel.trans (hb.mono sf.lt)⟩
end

end Go.Proofs.Ytfggkkhehaafcaa

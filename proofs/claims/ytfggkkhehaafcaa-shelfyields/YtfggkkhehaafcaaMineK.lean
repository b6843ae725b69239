/- Nobody beside the shelf has pages: which are free. -/
import Derived.Test.YtfggkkhehaafcaaRows
import Derived.Test.YtfggkkhehaafcaaPages
import Derived.Test.YtfggkkhehaafcaaView
import Derived.Test.YtfggkkhehaafcaaOwn
import Derived.Test.YtfggkkhehaafcaaReadsP
import Derived.Test.YtfggkkhehaafcaaReadsQ
import Derived.Test.YtfggkkhehaafcaaLeast
import Derived.Test.YtfggkkhehaafcaaLays
import Derived.Test.YtfggkkhehaafcaaNews
import Derived.Test.YtfggkkhehaafcaaGoods
import Derived.Test.YtfggkkhehaafcaaPlain
import Derived.Test.YtfggkkhehaafcaaLies
import Derived.Test.YtfggkkhehaafcaaShPlain
import Derived.Test.YtfggkkhehaafcaaShActs
import Derived.Test.YtfggkkhehaafcaaShIn
import Derived.WalkKit
import Derived.ProofKit
import Derived.OpenShut
import Derived.Below
import Derived.WalkLawsBesides
import Derived.Deep.QuietTactic
import Derived.BigQuiet
namespace Go.Proofs.Ytfggkkhehaafcaa
open Go.ChangeShapes Go.WideShapes Go.ChangeAt Go.RowKit
set_option linter.unusedVariables false
set_option linter.unusedSimpArgs false

def sumP (L : List It) : Nat := (L.map (fun x => x.P.length)).sum
theorem sumP_append (L M : List It) : sumP (L ++ M) = sumP L + sumP M := by simp [sumP]
theorem sumP_cons (x : It) (L : List It) : sumP (x :: L) = x.P.length + sumP L := by simp [sumP]
theorem sumP_nil : sumP [] = 0 := rfl
theorem sumP_chg (f : It → It) (hf : ∀ x, (f x).P = x.P) (n : ByteArray) (L : List It) : sumP (chg f n L) = sumP L := by
  unfold sumP chg
  rw [List.map_map]
  congr 2
  funext x
  simp only [Function.comp]
  split
  · rw [hf]
  · rfl
theorem sumP_rem {L : List It} (h : Nd L) {x : It} (hx : x ∈ L) : sumP (rem L x.nm) + x.P.length = sumP L := by
  induction L with
  | nil => cases hx
  | cons y r ih =>
    obtain ⟨h1, h2⟩ := List.pairwise_cons.1 h
    by_cases e : y.nm = x.nm
    · have ey : y = x := mem_same h (by simp) hx e
      subst ey
      have er : rem (y :: r) y.nm = r := by
        unfold Ytfggkkhehaafcaa.rem
        rw [List.filter_cons_of_neg (by simp)]
        exact List.filter_eq_self.2 fun u hu => by have q : ¬ u.nm = y.nm := fun e => h1 u hu e.symm; simp [q]
      rw [er, sumP_cons]
      omega
    · have hx' : x ∈ r := by
        rcases List.mem_cons.1 hx with c | c
        · rw [c] at e
          exact absurd rfl e
        · exact c
      have er : rem (y :: r) x.nm = y :: rem r x.nm := by
        unfold Ytfggkkhehaafcaa.rem
        rw [List.filter_cons_of_pos (by simp [e])]
      rw [er, sumP_cons, sumP_cons]
      have := ih h2 hx'
      omega
theorem sumP_rel {L : List It} (h : Nd L) {x : It} (hx : x ∈ L) : sumP (rel L x.nm) + x.P.length = sumP L := by
  induction L with
  | nil => cases hx
  | cons y r ih =>
    obtain ⟨h1, h2⟩ := List.pairwise_cons.1 h
    by_cases e : y.nm = x.nm
    · have ey : y = x := mem_same h (by simp) hx e
      subst ey
      have er : rel (y :: r) y.nm = gone y :: r := by
        show chg gone y.nm (y :: r) = _
        have := chg_none gone y.nm r (fun u hu c => h1 u hu c.symm)
        unfold chg at this ⊢
        rw [List.map_cons, if_pos rfl, this]
      rw [er, sumP_cons, sumP_cons]
      show 0 + sumP r + y.P.length = _
      omega
    · have hx' : x ∈ r := by
        rcases List.mem_cons.1 hx with c | c
        · rw [c] at e
          exact absurd rfl e
        · exact c
      have er : rel (y :: r) x.nm = y :: rel r x.nm := by
        show chg gone x.nm (y :: r) = _
        unfold rel chg
        rw [List.map_cons, if_neg e]
      rw [er, sumP_cons, sumP_cons]
      have := ih h2 hx'
      omega
theorem sumP_few {L : List It} (m : Nat) (h : ∀ x ∈ L, x.P.length ≤ m) : sumP L ≤ m * L.length := by
  induction L with
  | nil => exact Nat.zero_le _
  | cons x r ih =>
    have h1 := h x (by simp)
    have h2 := ih fun y hy => h y (by simp [hy])
    rw [sumP_cons, List.length_cons, Nat.mul_succ]
    omega

/-- nobody else has pages -/
structure Mn (s : Pl) (L : List It) : Prop where
  aside : s.aside = 0
  cover : ∀ z : Nat, z < s.n → (s.pg z).ow ≠ 0 → ∃ it ∈ L, (z : Int) ∈ it.P
  sum : hand s + (sumP L : Int) = s.n

theorem Mn.put {s : Pl} {L : List It} (h : Mn s L) (n : ByteArray) (W : List Int) : Mn s (putL L n W) := by
  unfold putL
  split
  · refine ⟨h.aside, fun z hz ho => ?_, ?_⟩
    · obtain ⟨it, hi, hz'⟩ := h.cover z hz ho
      exact ⟨it, List.mem_append_left _ hi, hz'⟩
    · rw [sumP_append]
      exact h.sum
  · exact h
theorem Mn.unpin {s : Pl} {L : List It} (h : Mn s L) (n : ByteArray) : Mn s (unpL L n) := by
  unfold unpL
  split
  · refine ⟨h.aside, fun z hz ho => ?_, ?_⟩
    · obtain ⟨it, hi, hz'⟩ := h.cover z hz ho
      by_cases e : it.nm = n
      · exact ⟨less it, List.mem_map.2 ⟨it, hi, by rw [if_pos e]⟩, hz'⟩
      · exact ⟨it, List.mem_map.2 ⟨it, hi, by rw [if_neg e]⟩, hz'⟩
    · rw [sumP_chg less (fun _ => rfl)]
      exact h.sum
  · exact h
theorem Mn.release {cap : Nat} {s : Pl} {L : List It} (h : Mn s L) (hok : ShOk cap s L) {x : It} (hx : x ∈ L) : Mn (relS s x.P) (rel L x.nm) := by
  obtain ⟨a0, a1, a2, a3, a4, a5⟩ := relS_owned (hok.owned hx)
  refine ⟨by rw [a2]; exact h.aside, fun z hz ho => ?_, ?_⟩
  · rw [a1] at hz
    have hz' : (z : Int) ∉ x.P := fun c => ho (a3 z c)
    rw [a4 z hz'] at ho
    obtain ⟨it, hi, hzi⟩ := h.cover z hz ho
    have e : ¬ it.nm = x.nm := fun e => hz' (by rw [← mem_same hok.nd hi hx e]; exact hzi)
    exact ⟨it, List.mem_map.2 ⟨it, hi, by rw [if_neg e]⟩, hzi⟩
  · rw [hand_rel (hok.owned hx), a1]
    have h1 := sumP_rel hok.nd hx
    have h2 := h.sum
    omega
theorem Mn.yield {cap : Nat} {s : Pl} {L : List It} (h : Mn s L) (hok : ShOk cap s L) : Mn (yieldP s L).1 (yieldP s L).2 := by
  unfold yieldP
  cases e : L.find? loose with
  | none => exact h
  | some x =>
    obtain ⟨h1, h2, h3⟩ := find_loose e
    exact h.release hok h1
theorem Mn.yields {cap : Nat} {n : Int} : ∀ (k : Nat) (s : Pl) (L : List It), (L.filter loose).length = k → ShOk cap s L → Mn s L → Mn (yieldsAll s L n).1 (yieldsAll s L n).2 := by
  intro k
  induction k with
  | zero =>
    intro s L hk hok h
    unfold yieldsAll
    rw [hk]
    exact h
  | succ k ih =>
    intro s L hk hok h
    by_cases c : hand s < n
    · cases e : L.find? loose with
      | none =>
        unfold yieldsAll
        rw [hk]
        simp only [Ytfggkkhehaafcaa.yields]
        rw [if_pos c, e]
        exact h
      | some x =>
        obtain ⟨h1, h2, h3⟩ := find_loose e
        rw [yieldsAll_step hok.nd c e]
        exact ih _ _ (by have := (looseP_rel hok.nd h1 (loose_of h2 h3)).2; omega) (hok.release h1 h3) (h.release hok h1)
    · rw [yieldsAll_stop c]
      exact h
theorem Mn.remove {cap : Nat} {s : Pl} {L : List It} (h : Mn s L) (hok : ShOk cap s L) (n : ByteArray) (h0 : remE L n = 0) : Mn (remS s L n) (remL L n) := by
  have e2 : remL L n = rem L n := by unfold remL; rw [if_pos h0]
  unfold remE at h0
  cases hl : look L n with
  | none => rw [hl] at h0; simp at h0
  | some x =>
    rw [hl] at h0
    simp only at h0
    have c : ¬ 0 < x.pins := fun c => by rw [if_pos c] at h0; omega
    have e1 : remS s L n = relS s x.P := by unfold remS; rw [hl]; simp only; rw [if_neg c]
    obtain ⟨hx, hn⟩ := look_some hl
    have q := h.release hok hx
    rw [e1, e2]
    refine ⟨q.aside, fun z hz ho => ?_, ?_⟩
    · obtain ⟨it, hi, hz'⟩ := q.cover z hz ho
      obtain ⟨u, hu, ⟨c1, rfl⟩ | ⟨c1, rfl⟩⟩ := chg_mem _ _ hi
      · cases hz'
      · exact ⟨it, rem_mem.2 ⟨hu, by rw [← hn]; exact c1⟩, hz'⟩
    · have h1 := q.sum
      have h2 := sumP_rel hok.nd hx
      have h3 := sumP_rem hok.nd hx
      rw [hn] at h2 h3
      rw [hn] at h1
      omega
theorem Mn.pin {cap : Nat} {s : Pl} {L : List It} (h : Mn s L) (hok : ShOk cap s L) (n : ByteArray) : Mn (pinP s L n).1 (pinP s L n).2 := by
  unfold pinP
  cases hl : look L n with
  | none => exact h
  | some x =>
    obtain ⟨hx, hn⟩ := look_some hl
    simp only
    by_cases hi : x.is = true
    · rw [if_pos hi]
      refine ⟨h.aside, fun z hz ho => ?_, ?_⟩
      · obtain ⟨it, hit, hz'⟩ := h.cover z hz ho
        by_cases e : it.nm = x.nm
        · have := mem_same hok.nd hit hx e
          subst this
          exact ⟨_, List.mem_append_right _ (List.mem_singleton.2 rfl), hz'⟩
        · exact ⟨it, List.mem_append_left _ (rem_mem.2 ⟨hit, e⟩), hz'⟩
      · have h1 := sumP_rem hok.nd hx
        have h2 := h.sum
        unfold bump
        rw [sumP_append, sumP_cons, sumP_nil]
        show hand s + ((sumP (rem L x.nm) + (x.P.length + 0) : Nat) : Int) = s.n
        omega
    · rw [if_neg hi]
      by_cases hr : roomZ s L < needZ x.W.length
      · rw [if_pos hr]
        exact h
      · rw [if_neg hr]
        have h0 := pin_place hok hr
        obtain ⟨i1, i2, i3, i4⟩ := yieldsAll_ok (cap := cap) (n := needZ x.W.length) _ s L rfl hok (need_room hr)
        have hm := Mn.yields (n := needZ x.W.length) _ s L rfl hok h
        have hx' := i3 n x hl (by simp [loose, hi])
        obtain ⟨q, eq⟩ : ∃ q, yieldsAll s L (needZ x.W.length) = q := ⟨_, rfl⟩
        rw [eq] at h0 i1 i2 hm hx' ⊢
        obtain ⟨hxq, _⟩ := look_some hx'
        have hxP := (hok.off x hx (by simpa using hi)).1
        obtain ⟨p1, p2, p3, p4, p5, p6⟩ := placed i1.good (plus x.nm) x.W h0
        refine ⟨by show (placeS q.1 (plus x.nm) x.W).aside = 0; rw [p3]; exact hm.aside, fun z hz ho => ?_, ?_⟩
        · by_cases c : (z : Int) ∈ placeR q.1 (plus x.nm) x.W
          · exact ⟨_, List.mem_append_right _ (List.mem_singleton.2 rfl), c⟩
          · have e := p4 z c
            have ho' : (q.1.pg z).ow ≠ 0 := by rw [← e]; exact ho
            have hz' : z < q.1.n := by rw [← p2]; exact hz
            obtain ⟨it, hit, hzi⟩ := hm.cover z hz' ho'
            refine ⟨it, List.mem_append_left _ (rem_mem.2 ⟨hit, fun e' => ?_⟩), hzi⟩
            have := mem_same i1.nd hit hxq e'
            rw [this, hxP] at hzi
            cases hzi
        · have h1 := sumP_rem i1.nd hxq
          have h2 := hm.sum
          rw [hxP] at h1
          have h3 : hand (placeS q.1 (plus x.nm) x.W) + (placeR q.1 (plus x.nm) x.W).length = hand q.1 := by
            unfold hand
            rw [p2, p3]
            omega
          unfold bump
          rw [sumP_append, sumP_cons, sumP_nil]
          show hand (placeS q.1 (plus x.nm) x.W) + ((sumP (rem q.2 x.nm) + ((placeR q.1 (plus x.nm) x.W).length + 0) : Nat) : Int) = ((placeS q.1 (plus x.nm) x.W).n : Int)
          rw [p2]
          simp only [List.length_nil] at h1
          omega
theorem mn_new (n : Nat) : Mn (newPl n) [] := ⟨rfl, fun z hz ho => absurd rfl ho, by
  show hand (newPl n) + (0 : Int) = n
  unfold hand
  rw [show (newPl n).n = n from rfl, freeTo_new]
  show (n : Int) - 0 + 0 = n
  omega⟩

theorem cnt_zero (p : Nat → Pg) (t : ByteArray) (n : Nat) (h : ∀ z, z < n → ¬ (0 < (p z).ow ∧ (p z).tag.toList = t.toList)) : cntTo p t n = 0 := by
  induction n with
  | zero => rfl
  | succ n ih =>
    simp only [cntTo]
    rw [ih (fun z hz => h z (by omega)), if_neg (h n (by omega))]
theorem all_used (p : Nat → Pg) (n : Nat) (h : ∀ z, z < n → (p z).ow = 0) : freeTo p n = n := by
  induction n with
  | zero => rfl
  | succ n ih =>
    simp only [freeTo]
    rw [ih (fun z hz => h z (by omega)), if_pos (h n (by omega))]

end Go.Proofs.Ytfggkkhehaafcaa

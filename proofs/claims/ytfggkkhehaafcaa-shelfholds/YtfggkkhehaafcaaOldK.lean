/- Five with one weight each and three pages: who is resident. -/
import Derived.Test.YtfggkkhehaafcaaRows
import Derived.Test.YtfggkkhehaafcaaPages
import Derived.Test.YtfggkkhehaafcaaView
import Derived.Test.YtfggkkhehaafcaaOwn
import Derived.Test.YtfggkkhehaafcaaReadsP
import Derived.Test.YtfggkkhehaafcaaReadsQ
import Derived.Test.YtfggkkhehaafcaaLeast
import Derived.Test.YtfggkkhehaafcaaLays
import Derived.Test.YtfggkkhehaafcaaNews
import Derived.Test.YtfggkkhehaafcaaGoods
import Derived.Test.YtfggkkhehaafcaaPlain
import Derived.Test.YtfggkkhehaafcaaLies
import Derived.Test.YtfggkkhehaafcaaCopies
import Derived.Test.YtfggkkhehaafcaaNeeds
import Derived.Test.YtfggkkhehaafcaaFetch
import Derived.Test.YtfggkkhehaafcaaRelease
import Derived.Test.YtfggkkhehaafcaaMapV
import Derived.Test.YtfggkkhehaafcaaShPlain
import Derived.Test.YtfggkkhehaafcaaShActs
import Derived.Test.YtfggkkhehaafcaaShAt
import Derived.Test.YtfggkkhehaafcaaIndex
import Derived.Test.YtfggkkhehaafcaaShRd
import Derived.Test.YtfggkkhehaafcaaShRoom
import Derived.Test.YtfggkkhehaafcaaShIn
import Derived.WalkKit
import Derived.ProofKit
import Derived.OpenShut
import Derived.Below
import Derived.WalkLawsBesides
import Derived.Deep.QuietTactic
import Derived.BigQuiet
namespace Go.Proofs.Ytfggkkhehaafcaa
open Go.ChangeShapes Go.WideShapes Go.ChangeAt Go.RowKit
set_option linter.unusedVariables false
set_option linter.unusedSimpArgs false

def N5 : List ByteArray := [⟨#[97]⟩, ⟨#[98]⟩, ⟨#[99]⟩, ⟨#[100]⟩, ⟨#[101]⟩]
def L5 : Nat → List It
  | 0 => []
  | k + 1 => putL (L5 k) (N5.getD k noText) [(k : Int)]

/-- all lie on the shelf with one weight, none is held, three pages in all -/
structure O5 (s : Pl) (L : List It) (ord : List ByteArray) : Prop where
  there : ∀ n ∈ N5, (look L n).isSome = true
  pins : ∀ y ∈ L, y.pins = 0
  one : ∀ y ∈ L, y.W.length = 1
  nms : names L = ord
  sum : hand s + (ord.length : Int) = 3

def lst3 (l : List ByteArray) : List ByteArray := l.drop (l.length - 3)
def nextO (ord : List ByteArray) (n : ByteArray) : List ByteArray := lst3 (ord.filter (fun u => !decide (u = n)) ++ [n])

theorem o5_start : O5 (newPl 3) (L5 5) [] := ⟨by decide +kernel, by decide +kernel, by decide +kernel, by decide +kernel, by decide +kernel⟩

theorem chg_less_back {L : List It} {x : It} (hx : x.pins = 0) (n : ByteArray) (hn : x.nm = n) : unpE (bump L x) n = 0 ∧ unpL (bump L x) n = rem L n ++ [x] := by
  subst hn
  have e0 : look (bump L x) x.nm = some { x with pins := x.pins + 1 } := by rw [look_bump, if_pos rfl]
  have e1 : unpE (bump L x) x.nm = 0 := by unfold unpE; rw [e0]; simp only; rw [if_neg (by omega)]
  refine ⟨e1, ?_⟩
  unfold unpL
  rw [if_pos e1]
  unfold bump chg
  rw [List.map_append]
  congr 1
  · have h : ∀ y ∈ rem L x.nm, (if y.nm = x.nm then less y else y) = id y := fun y hy => by rw [if_neg (rem_mem.1 hy).2]; rfl
    exact (List.map_congr_left h).trans (List.map_id _)
  · simp [less]

theorem find_res {L : List It} {x : It} (hp : ∀ y ∈ L, y.pins = 0) (h : L.find? loose = some x) : names L = x.nm :: names (rel L x.nm) ∨ (names L).Nodup → ∃ r, names L = x.nm :: r := by
  intro _
  have e : (res L).find? (fun y => y.pins == 0) = some x := by
    unfold res
    rw [List.find?_filter, show (fun y : It => decide (y.is = true ∧ (y.pins == 0) = true)) = loose from by funext y; unfold loose; rw [Bool.eq_iff_iff]; simp]
    exact h
  unfold names
  cases hr : res L with
  | nil => rw [hr] at e; cases e
  | cons y r =>
    rw [hr, List.find?_cons] at e
    have hy : y ∈ L := (List.mem_filter.1 (show y ∈ res L by rw [hr]; simp)).1
    rw [show (y.pins == 0) = true by simp [hp y hy]] at e
    simp only [Option.some.injEq] at e
    subst e
    exact ⟨r.map (fun x => x.nm), rfl⟩

theorem hand_place {m : Nat} {s : Pl} (hG : Good m s) (t : ByteArray) (W : List Int) (h0 : placeE s t W = 0) : hand (placeS s t W) + ((W.length + 31) / 32 : Nat) = hand s := by
  obtain ⟨p1, p2, p3, p4, p5, p6⟩ := placed hG t W h0
  have := p1.len
  unfold hand
  rw [p2, p3]
  omega

/-- pinned and unpinned, it was pinned last; of four the first one is gone -/
theorem o5_next {cap : Nat} {s : Pl} {L : List It} {ord : List ByteArray} (hok : ShOk cap s L) (h : O5 s L ord) {n : ByteArray} (hn : n ∈ N5) :
    pinE s L n = 0 ∧ unpE (pinP s L n).2 n = 0 ∧ O5 (pinP s L n).1 (unpL (pinP s L n).2 n) (nextO ord n) := by
  obtain ⟨x, hx⟩ := Option.isSome_iff_exists.1 (h.there n hn)
  obtain ⟨hm, hnm⟩ := look_some hx
  have hp := h.pins x hm
  have h1 := h.one x hm
  have hb := hand_bound hok.good
  have hsum := h.sum
  have hlen : ord.length ≤ 3 := by omega
  have hnd := names_nd hok.nd
  rw [h.nms] at hnd
  -- what stands behind it in any case
  have common : ∀ (L' : List It) (x' : It), x'.nm = n → x'.pins = 0 → x'.W.length = 1 → x'.is = true → (∀ y ∈ L', y.pins = 0 ∧ y.W.length = 1) → (∀ m ∈ N5, m ≠ n → (look L' m).isSome = true) →
      (∀ m ∈ N5, (look (rem L' n ++ [x']) m).isSome = true) ∧ (∀ y ∈ rem L' n ++ [x'], y.pins = 0) ∧ (∀ y ∈ rem L' n ++ [x'], y.W.length = 1) ∧ names (rem L' n ++ [x']) = (names L').filter (fun u => !decide (u = n)) ++ [n] := fun L' x' e1 e2 e3 e4 e5 e6 => by
    refine ⟨fun m hm' => ?_, fun y hy => ?_, fun y hy => ?_, ?_⟩
    · rw [look_snoc _ _ _ (fun y hy => by rw [e1]; exact (rem_mem.1 hy).2)]
      by_cases c : m = x'.nm
      · rw [if_pos c]; rfl
      · rw [if_neg c, look_rem, if_neg (by rw [← e1]; exact c)]
        exact e6 m hm' (by rw [← e1]; exact c)
    · rcases List.mem_append.1 hy with hy | hy
      · exact (e5 y (rem_mem.1 hy).1).1
      · rw [List.mem_singleton.1 hy]; exact e2
    · rcases List.mem_append.1 hy with hy | hy
      · exact (e5 y (rem_mem.1 hy).1).2
      · rw [List.mem_singleton.1 hy]; exact e3
    · rw [names_snoc, names_rem, if_pos e4, e1]
  by_cases hi : x.is = true
  · have e0 : pinE s L n = 0 := by unfold pinE; rw [hx]; simp only; rw [if_pos hi]
    have e1 : pinP s L n = (s, bump L x) := by unfold pinP; rw [hx]; simp only; rw [if_pos hi]
    obtain ⟨u1, u2⟩ := chg_less_back (L := L) hp n hnm
    rw [e1]
    simp only
    refine ⟨e0, u1, ?_⟩
    rw [u2]
    obtain ⟨c1, c2, c3, c4⟩ := common L x hnm hp h1 hi (fun y hy => ⟨h.pins y hy, h.one y hy⟩) (fun m hm' _ => h.there m hm')
    have hmem : n ∈ ord := by rw [← h.nms, ← hnm]; exact (names_is hok.nd hm).2 hi
    have hl : (ord.filter (fun u => !decide (u = n))).length + 1 = ord.length := by
      obtain ⟨K, hK, k1, _⟩ := first_at hmem
      rw [← erase_at hnd hK k1, List.length_eraseIdx]
      simp [hK]
      omega
    have e3 : nextO ord n = ord.filter (fun u => !decide (u = n)) ++ [n] := by
      unfold nextO lst3
      rw [List.length_append, show (ord.filter (fun u => !decide (u = n))).length + [n].length - 3 = 0 by simp only [List.length_cons, List.length_nil]; omega]
      rfl
    rw [e3]
    refine ⟨c1, c2, c3, by rw [c4, h.nms], ?_⟩
    rw [List.length_append]
    simp only [List.length_cons, List.length_nil]
    omega
  · have hne : n ∉ ord := by rw [← h.nms, ← hnm]; exact fun e => hi ((names_is hok.nd hm).1 e)
    have hfl : ord.filter (fun u => !decide (u = n)) = ord := List.filter_eq_self.2 fun u hu => by have q : ¬ u = n := fun e => hne (by rw [← e]; exact hu); simp [q]
    have need1 : needZ x.W.length = 1 := by rw [h1]; rfl
    -- one page could be had
    have hroom : ¬ roomZ s L < needZ x.W.length := by
      rw [need1]
      by_cases c : hand s < 1
      · have : ord ≠ [] := by rintro rfl; simp at hsum; omega
        obtain ⟨u, hu⟩ := List.exists_mem_of_ne_nil _ this
        rw [← h.nms, names_mem] at hu
        obtain ⟨y, hy, hyi, _⟩ := hu
        have hyl := (hok.on y hy hyi).1.len
        rw [h.one y hy] at hyl
        have : y ∈ L.filter loose := List.mem_filter.2 ⟨hy, loose_of hyi (h.pins y hy)⟩
        have h2 : y.P.length ≤ (looseP L).length := by
          unfold looseP
          obtain ⟨l1, l2, e⟩ := List.append_of_mem this
          rw [e, List.flatMap_append, List.flatMap_cons, List.length_append, List.length_append]
          omega
        unfold roomZ
        omega
      · unfold roomZ
        omega
    have e0 : pinE s L n = 0 := by unfold pinE; rw [hx]; simp only; rw [if_neg hi, if_neg hroom]
    have e1 : pinP s L n = (placeS (yieldsAll s L 1).1 (plus x.nm) x.W, bump (yieldsAll s L 1).2 (laidIt (yieldsAll s L 1).1 x)) := by unfold pinP; rw [hx]; simp only; rw [if_neg hi, if_neg hroom, need1]
    have hpl := pin_place hok hroom
    rw [need1] at hpl
    obtain ⟨i1, i2, i3, i4⟩ := yieldsAll_ok (cap := cap) (n := 1) _ s L rfl hok (by rw [need1] at hroom; omega)
    have hhp := hand_place i1.good (plus x.nm) x.W hpl
    rw [h1] at hhp
    -- who yields
    have hy : (∀ y ∈ (yieldsAll s L 1).2, y.pins = 0 ∧ y.W.length = 1) ∧ (∀ m ∈ N5, m ≠ n → (look (yieldsAll s L 1).2 m).isSome = true) ∧ ((hand s < 1 ∧ hand (yieldsAll s L 1).1 = 1 ∧ names (yieldsAll s L 1).2 = ord.drop 1) ∨ (¬ hand s < 1 ∧ hand (yieldsAll s L 1).1 = hand s ∧ names (yieldsAll s L 1).2 = ord)) := by
      by_cases c : hand s < 1
      · obtain ⟨y, hy⟩ := room_loose c (show (1 : Int) ≤ roomZ s L by rw [need1] at hroom; omega)
        obtain ⟨y1, y2, y3⟩ := find_loose hy
        have hyl := (hok.on y y1 y2).1.len
        rw [h.one y y1] at hyl
        have hh := hand_rel (hok.owned y1)
        rw [yieldsAll_step hok.nd c hy, yieldsAll_stop (by omega)]
        refine ⟨fun u hu => ?_, fun m hm' hne' => ?_, .inl ⟨c, by simp only; omega, ?_⟩⟩
        · obtain ⟨v, hv, ⟨_, rfl⟩ | ⟨_, rfl⟩⟩ := chg_mem _ _ hu
          · exact ⟨h.pins v hv, h.one v hv⟩
          · exact ⟨h.pins u hv, h.one u hv⟩
        · unfold rel
          rw [look_chg gone gone_nm]
          have := h.there m hm'
          split
          · rw [Option.isSome_map]; exact this
          · exact this
        · obtain ⟨r, hr⟩ := find_res h.pins hy (.inr (by rw [h.nms]; exact hnd))
          simp only
          rw [names_rel, hr]
          rw [h.nms] at hr
          rw [hr, List.filter_cons_of_neg (by simp), List.drop_succ_cons, List.drop_zero]
          rw [hr] at hnd
          exact List.filter_eq_self.2 fun u hu => by have q : ¬ u = y.nm := fun e => (List.nodup_cons.1 hnd).1 (by rw [← e]; exact hu); simp [q]
      · rw [yieldsAll_stop c]
        exact ⟨fun y hy => ⟨h.pins y hy, h.one y hy⟩, fun m hm' _ => h.there m hm', .inr ⟨c, rfl, h.nms⟩⟩
    obtain ⟨y1, y2, y3⟩ := hy
    obtain ⟨q, eq⟩ : ∃ q, yieldsAll s L 1 = q := ⟨_, rfl⟩
    rw [eq] at hhp y1 y2 y3 e1
    rw [e1]
    simp only
    obtain ⟨u1, u2⟩ := chg_less_back (L := q.2) (x := laidIt q.1 x) hp n hnm
    refine ⟨e0, u1, ?_⟩
    rw [u2]
    obtain ⟨c1, c2, c3, c4⟩ := common q.2 (laidIt q.1 x) hnm hp h1 rfl y1 y2
    have e4 : (names q.2).filter (fun u => !decide (u = n)) ++ [n] = nextO ord n ∧ hand q.1 - 1 + ((nextO ord n).length : Int) = 3 := by
      unfold nextO lst3
      rw [hfl, List.length_append]
      simp only [List.length_cons, List.length_nil]
      rcases y3 with ⟨d1, d2, d3⟩ | ⟨d1, d2, d3⟩
      · have h3 : ord.length = 3 := by omega
        rw [d3, d2, h3, List.drop_append_of_le_length (by omega)]
        refine ⟨?_, ?_⟩
        · congr 1
          exact List.filter_eq_self.2 fun u hu => by have q : ¬ u = n := fun e => hne (by rw [← e]; exact List.mem_of_mem_drop hu); simp [q]
        · rw [List.length_append, List.length_drop, h3]
          simp
      · have h2 : ord.length ≤ 2 := by omega
        rw [d3, d2, hfl, show ord.length + (0 + 1) - 3 = 0 by omega]
        refine ⟨rfl, ?_⟩
        rw [List.drop_zero, List.length_append]
        simp only [List.length_cons, List.length_nil]
        omega
    exact ⟨c1, c2, c3, by rw [c4]; exact e4.1, by have := e4.2; simp only [Nat.reduceAdd, Nat.reduceDiv, Int.cast_ofNat_Int] at hhp; omega⟩

end Go.Proofs.Ytfggkkhehaafcaa

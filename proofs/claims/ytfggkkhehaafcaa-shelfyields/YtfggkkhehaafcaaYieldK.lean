/- Six at most and 200 pages: who yields. -/
import Derived.Test.YtfggkkhehaafcaaRows
import Derived.Test.YtfggkkhehaafcaaPages
import Derived.Test.YtfggkkhehaafcaaView
import Derived.Test.YtfggkkhehaafcaaOwn
import Derived.Test.YtfggkkhehaafcaaReadsP
import Derived.Test.YtfggkkhehaafcaaReadsQ
import Derived.Test.YtfggkkhehaafcaaLeast
import Derived.Test.YtfggkkhehaafcaaLays
import Derived.Test.YtfggkkhehaafcaaNews
import Derived.Test.YtfggkkhehaafcaaGoods
import Derived.Test.YtfggkkhehaafcaaPlain
import Derived.Test.YtfggkkhehaafcaaLies
import Derived.Test.YtfggkkhehaafcaaShPlain
import Derived.Test.YtfggkkhehaafcaaShActs
import Derived.Test.YtfggkkhehaafcaaShAt
import Derived.Test.YtfggkkhehaafcaaShIn
import Derived.Test.YtfggkkhehaafcaaOldK
import Derived.Test.YtfggkkhehaafcaaMineK
import Derived.WalkKit
import Derived.ProofKit
import Derived.OpenShut
import Derived.Below
import Derived.WalkLawsBesides
import Derived.Deep.QuietTactic
import Derived.BigQuiet
namespace Go.Proofs.Ytfggkkhehaafcaa
open Go.ChangeShapes Go.WideShapes Go.ChangeAt Go.RowKit
set_option linter.unusedVariables false
set_option linter.unusedSimpArgs false

def N6 : List ByteArray := [⟨#[97]⟩, ⟨#[98]⟩, ⟨#[99]⟩, ⟨#[100]⟩, ⟨#[101]⟩, ⟨#[102]⟩]
theorem N6_ok : ∀ n ∈ N6, 1 ≤ n.size ∧ n.size ≤ 16 := by decide
theorem N6_small : ∀ n ∈ N6, n.size ≤ maxLen := by decide
theorem N6_mem {i : Nat} (h : i < 6) : N6.getD i noText ∈ N6 := by
  have : i < N6.length := h
  simp [List.getD, this]
theorem N6_inj : ∀ i, i < 6 → ∀ j, j < 6 → N6.getD i noText = N6.getD j noText → i = j := by decide

/-- a pool of 200 pages and so many of at most 500 weights each -/
structure Y3 (wt : Nat → List Int) (n : Nat) (s : Pl) (L : List It) : Prop where
  mn : Mn s L
  n200 : s.n = 200
  len : L.length = n
  wl : ∀ x ∈ L, 1 ≤ x.W.length ∧ x.W.length ≤ 500
  here : ∀ i, i < n → ∃ x, look L (N6.getD i noText) = some x ∧ x.W = wt i

theorem rem_len1 {L : List It} (h : Nd L) {x : It} (hx : x ∈ L) : (rem L x.nm).length + 1 = L.length := by
  induction L with
  | nil => cases hx
  | cons y r ih =>
    obtain ⟨h1, h2⟩ := List.pairwise_cons.1 h
    by_cases e : y.nm = x.nm
    · have ey : y = x := mem_same h (by simp) hx e
      subst ey
      have er : rem (y :: r) y.nm = r := by
        unfold Ytfggkkhehaafcaa.rem
        rw [List.filter_cons_of_neg (by simp)]
        exact List.filter_eq_self.2 fun u hu => by have q : ¬ u.nm = y.nm := fun e => h1 u hu e.symm; simp [q]
      rw [er, List.length_cons]
    · have hx' : x ∈ r := by
        rcases List.mem_cons.1 hx with c | c
        · rw [c] at e
          exact absurd rfl e
        · exact c
      have er : rem (y :: r) x.nm = y :: rem r x.nm := by
        unfold Ytfggkkhehaafcaa.rem
        rw [List.filter_cons_of_pos (by simp [e])]
      rw [er, List.length_cons, List.length_cons, ih h2 hx']

theorem Y3.room {wt : Nat → List Int} {n cap : Nat} {s : Pl} {L : List It} (h : Y3 wt n s L) (hok : ShOk cap s L) (hn : n ≤ 6) : 100 ≤ hand s := by
  have h1 := sumP_few 16 (L := L) (fun x hx => by
    by_cases hi : x.is = true
    · have := (hok.on x hx hi).1.len
      have := (h.wl x hx).2
      omega
    · rw [(hok.off x hx (by simpa using hi)).1]
      exact Nat.zero_le _)
  have h2 := h.mn.sum
  rw [h.n200] at h2
  rw [h.len] at h1
  omega
theorem need_few {W : List Int} (h : W.length ≤ 500) : needZ W.length ≤ 16 := by
  rw [needZ_nat]
  omega

/-- nothing yields where there is room at hand -/
theorem Y3.pin_ {wt : Nat → List Int} {n cap : Nat} {s : Pl} {L : List It} (h : Y3 wt n s L) (hok : ShOk cap s L) (hn : n ≤ 6) {t : ByteArray} {x : It} (hx : look L t = some x) :
    pinE s L t = 0 ∧ pinP s L t = if x.is = true then (s, bump L x) else (placeS s (plus x.nm) x.W, bump L (laidIt s x)) := by
  obtain ⟨hm, hnm⟩ := look_some hx
  have hr := h.room hok hn
  have hw := need_few (h.wl x hm).2
  have hroom : ¬ roomZ s L < needZ x.W.length := by unfold roomZ; omega
  unfold pinE pinP
  rw [hx]
  simp only
  by_cases hi : x.is = true
  · rw [if_pos hi, if_pos hi, if_pos hi]
    exact ⟨rfl, rfl⟩
  · rw [if_neg hi, if_neg hi, if_neg hi, if_neg hroom, if_neg hroom, yieldsAll_stop (by omega)]
    exact ⟨rfl, rfl⟩

theorem bump_len {L : List It} (h : Nd L) {x y : It} (hx : x ∈ L) (e : y.nm = x.nm) : (bump L y).length = L.length := by
  unfold bump
  rw [List.length_append, e]
  have := rem_len1 h hx
  simp only [List.length_cons, List.length_nil]
  omega

theorem Y3.pin {wt : Nat → List Int} {n cap : Nat} {s : Pl} {L : List It} (h : Y3 wt n s L) (hok : ShOk cap s L) (hn : n ≤ 6) {i : Nat} (hi : i < n) :
    pinE s L (N6.getD i noText) = 0 ∧ Y3 wt n (pinP s L (N6.getD i noText)).1 (pinP s L (N6.getD i noText)).2 ∧ readE (pinP s L (N6.getD i noText)).1 (pinP s L (N6.getD i noText)).2 (N6.getD i noText) = 0 ∧ readV (pinP s L (N6.getD i noText)).1 (pinP s L (N6.getD i noText)).2 (N6.getD i noText) = wt i := by
  obtain ⟨x, hx, hxw⟩ := h.here i hi
  obtain ⟨hm, hnm⟩ := look_some hx
  obtain ⟨e0, e1⟩ := h.pin_ hok hn hx
  have hmn := h.mn.pin hok (N6.getD i noText)
  have hok' := hok.pin (N6.getD i noText)
  obtain ⟨T, eT⟩ : ∃ T, N6.getD i noText = T := ⟨_, rfl⟩
  rw [eT] at hx hnm e0 e1 hmn hok' ⊢
  -- either way one with the same name and weights stands at the end
  have key : ∃ x' : It, x'.nm = x.nm ∧ x'.W = x.W ∧ x'.is = true ∧ (pinP s L T).2 = bump L x' ∧ (pinP s L T).1.n = s.n := by
    by_cases hs : x.is = true
    · rw [if_pos hs] at e1
      exact ⟨x, rfl, rfl, hs, by rw [e1], by rw [e1]⟩
    · rw [if_neg hs] at e1
      have hp : placeE s (plus x.nm) x.W = 0 := by
        have hr := h.room hok hn
        have hw := need_few (h.wl x hm).2
        have := pin_place hok (x := x) (show ¬ roomZ s L < needZ x.W.length by unfold roomZ; omega)
        rw [yieldsAll_stop (by omega)] at this
        exact this
      exact ⟨laidIt s x, rfl, rfl, rfl, by rw [e1], by rw [e1]; exact (placed hok.good _ _ hp).2.1⟩
  obtain ⟨x', k1, k2, k3, k4, k5⟩ := key
  have hl : look (pinP s L T).2 T = some { x' with pins := x'.pins + 1 } := by rw [k4, look_bump, if_pos (by rw [k1]; exact hnm.symm)]
  obtain ⟨r1, r2⟩ := hok'.read hl k3
  refine ⟨e0, ⟨hmn, by rw [k5]; exact h.n200, by rw [k4, bump_len hok.nd hm k1]; exact h.len, fun y hy => ?_, fun j hj => ?_⟩, r1, by rw [r2]; show x'.W = _; rw [k2]; exact hxw⟩
  · rw [k4] at hy
    rcases bump_mem hy with ⟨hy, _⟩ | rfl
    · exact h.wl y hy
    · show 1 ≤ x'.W.length ∧ x'.W.length ≤ 500
      rw [k2]
      exact h.wl x hm
  · rw [k4, look_bump]
    by_cases c : N6.getD j noText = x'.nm
    · rw [if_pos c]
      refine ⟨_, rfl, ?_⟩
      show x'.W = _
      rw [k2, hxw]
      have : j = i := N6_inj j (by omega) i (by omega) (by rw [c, k1, hnm, eT])
      rw [this]
    · rw [if_neg c]
      exact h.here j hj

/-- .. and these are loose, in this order; the others are still to come -/
structure Y1 (wt : Nat → List Int) (n : Nat) (s : Pl) (L : List It) (ord : List ByteArray) : Prop where
  y3 : Y3 wt n s L
  new : ∀ i, n ≤ i → i < 6 → look L (N6.getD i noText) = none
  ord : (L.filter loose).map (fun x => x.nm) = ord

theorem y1_start (wt : Nat → List Int) : Y1 wt 0 (newPl 200) [] [] :=
  ⟨⟨mn_new 200, rfl, rfl, fun x hx => (by cases hx), fun i hi => by omega⟩, fun i _ _ => rfl, rfl⟩

/-- one more is put, pinned, and perhaps unpinned -/
theorem Y1.next {wt : Nat → List Int} {n cap : Nat} {s : Pl} {L : List It} {ord : List ByteArray} (h : Y1 wt n s L ord) (hok : ShOk cap s L) (hn : n < 6) (hw : 1 ≤ (wt n).length ∧ (wt n).length ≤ 500) (hwf : ∀ z ∈ wt n, (Lit.int .i8 z).wf = true) :
    putE L (N6.getD n noText) = 0 ∧ pinE s (putL L (N6.getD n noText) (wt n)) (N6.getD n noText) = 0 ∧
      Y1 wt (n + 1) (pinP s (putL L (N6.getD n noText) (wt n)) (N6.getD n noText)).1 (pinP s (putL L (N6.getD n noText) (wt n)) (N6.getD n noText)).2 ord ∧
      unpE (pinP s (putL L (N6.getD n noText) (wt n)) (N6.getD n noText)).2 (N6.getD n noText) = 0 ∧
      Y1 wt (n + 1) (pinP s (putL L (N6.getD n noText) (wt n)) (N6.getD n noText)).1 (unpL (pinP s (putL L (N6.getD n noText) (wt n)) (N6.getD n noText)).2 (N6.getD n noText)) (ord ++ [N6.getD n noText]) := by
  have hnone := h.new n (Nat.le_refl _) hn
  have hsz := N6_ok _ (N6_mem hn)
  have p0 : putE L (N6.getD n noText) = 0 := by
    unfold putE
    rw [if_neg (by omega), hnone]
  have p1 : putL L (N6.getD n noText) (wt n) = L ++ [⟨N6.getD n noText, wt n, [], false, 0⟩] := by unfold putL; rw [if_pos p0]
  have hok1 := hok.put (N6.getD n noText) (wt n) (by omega) hwf
  have hinj := fun j (hj : j < 6) (e : N6.getD j noText = N6.getD n noText) => N6_inj j hj n hn e
  have hmn1 := h.y3.mn.put (N6.getD n noText) (wt n)
  obtain ⟨T, eT⟩ : ∃ T, N6.getD n noText = T := ⟨_, rfl⟩
  rw [eT] at hnone p0 p1 hok1 hinj hmn1 ⊢
  have hnew := look_none hnone
  have y1 : Y3 wt (n + 1) s (putL L T (wt n)) := by
    refine ⟨hmn1, h.y3.n200, ?_, fun x hx => ?_, fun j hj => ?_⟩
    · rw [p1, List.length_append, h.y3.len]
      rfl
    · rw [p1] at hx
      rcases List.mem_append.1 hx with hx | hx
      · exact h.y3.wl x hx
      · rw [List.mem_singleton.1 hx]
        exact hw
    · rw [p1, look_snoc L _ _ hnew]
      by_cases c : N6.getD j noText = T
      · rw [if_pos c]
        exact ⟨_, rfl, by rw [hinj j (by omega) c]⟩
      · rw [if_neg c]
        have hjn : j < n := by
          rcases Nat.lt_or_ge j n with e | e
          · exact e
          · have : j = n := by omega
            subst this
            exact absurd eT c
        exact h.y3.here j hjn
  have hlk : look (putL L T (wt n)) T = some ⟨T, wt n, [], false, 0⟩ := by rw [p1, look_snoc L _ _ hnew, if_pos rfl]
  obtain ⟨e0, e1⟩ := y1.pin_ hok1 (by omega) hlk
  rw [if_neg (by simp)] at e1
  simp only at e1
  have y2 := (y1.pin hok1 (by omega) (i := n) (by omega)).2.1
  rw [eT] at y2
  have hrem : rem (putL L T (wt n)) T = L := by
    rw [p1]
    unfold Ytfggkkhehaafcaa.rem
    rw [List.filter_append, List.filter_eq_self.2 (fun u hu => by have q : ¬ u.nm = T := hnew u hu; simp [q]), List.filter_cons_of_neg (by simp)]
    simp
  have hnewL : ∀ (L' : List It), (∀ m, m ≠ T → look L' m = look (putL L T (wt n)) m) → ∀ j, n + 1 ≤ j → j < 6 → look L' (N6.getD j noText) = none := fun L' hL' j hj hj6 => by
    have c : N6.getD j noText ≠ T := fun c => by have := hinj j hj6 c; omega
    rw [hL' _ c, p1, look_snoc L _ _ hnew, if_neg c]
    exact h.new j (by omega) hj6
  obtain ⟨x', ex'⟩ : ∃ x', laidIt s ⟨T, wt n, [], false, 0⟩ = x' := ⟨_, rfl⟩
  have x1 : x'.nm = T := by rw [← ex']; rfl
  have x2 : x'.pins = 0 := by rw [← ex']; rfl
  have x3 : x'.is = true := by rw [← ex']; rfl
  rw [ex'] at e1
  have eb : bump (putL L T (wt n)) x' = L ++ [{ x' with pins := 1 }] := by
    unfold bump
    rw [x1, hrem, x2]
  obtain ⟨u1, u2⟩ := chg_less_back (L := putL L T (wt n)) x2 T x1
  have hq2 : (pinP s (putL L T (wt n)) T).2 = bump (putL L T (wt n)) x' := by rw [e1]
  refine ⟨p0, e0, ⟨y2, hnewL _ (fun m hm => by rw [hq2, look_bump, if_neg (by rw [x1]; exact hm)]), ?_⟩, by rw [hq2]; exact u1, ⟨?_, ?_, ?_⟩⟩
  · rw [hq2, eb, List.filter_append, List.map_append, h.ord, List.filter_cons_of_neg (by simp [loose])]
    simp
  · rw [hq2, u2, hrem]
    have hun := y2.mn.unpin T
    rw [hq2] at hun
    have hul : unpL (bump (putL L T (wt n)) x') T = L ++ [x'] := by rw [u2, hrem]
    rw [hul] at hun
    rw [hq2, eb] at y2
    refine ⟨hun, y2.n200, ?_, fun y hy => ?_, fun j hj => ?_⟩
    · have := y2.len
      rw [List.length_append] at this ⊢
      exact this
    · rcases List.mem_append.1 hy with hy | hy
      · exact y2.wl y (List.mem_append_left _ hy)
      · rw [List.mem_singleton.1 hy]
        exact y2.wl { x' with pins := 1 } (List.mem_append_right _ (List.mem_singleton.2 rfl))
    · obtain ⟨v, hv, hvw⟩ := y2.here j hj
      have hnx : ∀ y ∈ L, y.nm ≠ x'.nm := fun y hy => by rw [x1]; exact hnew y hy
      rw [look_snoc L { x' with pins := 1 } _ hnx] at hv
      rw [look_snoc L x' _ hnx]
      simp only at hv
      by_cases c : N6.getD j noText = x'.nm
      · rw [if_pos c] at hv ⊢
        refine ⟨x', rfl, ?_⟩
        rw [← hvw, ← Option.some.inj hv]
      · rw [if_neg c] at hv ⊢
        exact ⟨v, hv, hvw⟩
  · refine hnewL _ (fun m hm => ?_)
    rw [hq2, u2, hrem, look_snoc L _ _ (fun y hy => by rw [x1]; exact hnew y hy), if_neg (by rw [x1]; exact hm), p1, look_snoc L _ _ hnew, if_neg hm]
  · rw [hq2, u2, hrem, List.filter_append, List.map_append, h.ord, List.filter_cons_of_pos (loose_of x3 x2)]
    simp [x1]

/-- the first of these yields -/
theorem Y1.yield {wt : Nat → List Int} {n cap : Nat} {s : Pl} {L : List It} {t : ByteArray} {ord : List ByteArray} (h : Y1 wt n s L (t :: ord)) (hok : ShOk cap s L) :
    yieldB L = true ∧ Y1 wt n (yieldP s L).1 (yieldP s L).2 ord ∧ cntTo (yieldP s L).1.pg (plus t) (yieldP s L).1.n = 0 ∧ freeTo s.pg s.n < freeTo (yieldP s L).1.pg (yieldP s L).1.n ∧ readE (yieldP s L).1 (yieldP s L).2 t = 27 ∧ t.size ≤ 16 := by
  have ho := h.ord
  obtain ⟨x, r, hfx⟩ : ∃ x r, L.filter loose = x :: r := by
    cases e : L.filter loose with
    | nil => rw [e] at ho; cases ho
    | cons x r => exact ⟨x, r, rfl⟩
  rw [hfx] at ho
  simp only [List.map_cons, List.cons.injEq] at ho
  obtain ⟨hxt, hr⟩ := ho
  have hf : L.find? loose = some x := by
    have := List.head?_filter (p := loose) (l := L)
    rw [hfx] at this
    exact this.symm
  obtain ⟨x1, x2, x3⟩ := find_loose hf
  have e1 : yieldB L = true := by unfold yieldB; rw [hf]; rfl
  have e2 : yieldP s L = (relS s x.P, rel L x.nm) := by unfold yieldP; rw [hf]
  have hmn := h.y3.mn.release hok x1
  have hok' := hok.release x1 x3
  obtain ⟨a0, a1, a2, a3, a4, a5⟩ := relS_owned (hok.owned x1)
  have hlen := (hok.on x x1 x2).1.len
  have hwl := (h.y3.wl x x1).1
  have hlg : look (rel L x.nm) x.nm = some (gone x) := by unfold rel; rw [look_chg gone gone_nm, if_pos rfl, look_mem hok.nd x1]; rfl
  rw [e2]
  simp only
  refine ⟨e1, ⟨⟨hmn, by rw [a1]; exact h.y3.n200, by unfold rel; rw [chg_len]; exact h.y3.len, fun y hy => ?_, fun j hj => ?_⟩, fun j hj hj6 => ?_, ?_⟩, ?_, ?_, ?_, ?_⟩
  · obtain ⟨u, hu, ⟨_, rfl⟩ | ⟨_, rfl⟩⟩ := chg_mem _ _ hy
    · exact h.y3.wl u hu
    · exact h.y3.wl y hu
  · obtain ⟨v, hv, hvw⟩ := h.y3.here j hj
    unfold rel
    rw [look_chg gone gone_nm, hv]
    split
    · exact ⟨gone v, rfl, hvw⟩
    · exact ⟨v, rfl, hvw⟩
  · unfold rel
    rw [look_chg gone gone_nm, h.new j hj hj6]
    split <;> rfl
  · -- without the first one
    have hcount := (looseP_rel hok.nd x1 (loose_of x2 x3)).2
    have hsub : ∀ (M : List It), Nd M → (∀ y ∈ M, y.nm = x.nm → y = x) → ∀ (M' : List It), M.filter loose = x :: M' → (rel M x.nm).filter loose = M' := by
      intro M
      induction M with
      | nil => intro _ _ M' e; cases e
      | cons y q ih =>
        intro hnd hu M' e
        obtain ⟨n1, n2⟩ := List.pairwise_cons.1 hnd
        have er : rel (y :: q) x.nm = (if y.nm = x.nm then gone y else y) :: rel q x.nm := rfl
        rw [er]
        by_cases c : y.nm = x.nm
        · have ey := hu y (by simp) c
          subst ey
          rw [if_pos rfl, List.filter_cons_of_neg (by simp [loose, gone])]
          rw [List.filter_cons_of_pos (loose_of x2 x3)] at e
          have hq : rel q y.nm = q := chg_none gone y.nm q (fun u hu c => n1 u hu c.symm)
          rw [hq]
          exact (List.cons.inj e).2
        · rw [if_neg c]
          by_cases b : loose y = true
          · rw [List.filter_cons_of_pos b] at e
            exact absurd (by rw [(List.cons.inj e).1]) c
          · rw [List.filter_cons_of_neg b] at e ⊢
            exact ih n2 (fun u hu' => hu u (by simp [hu'])) M' e
    rw [hsub L hok.nd (fun y hy e => mem_same hok.nd hy x1 e) r hfx]
    exact hr
  · refine cnt_zero _ _ _ fun z hz hc => ?_
    obtain ⟨it, hit, hzi⟩ := hmn.cover z hz (by omega)
    have hb : it.is = true := by
      cases e : it.is with
      | true => rfl
      | false => rw [(hok'.off it hit e).1] at hzi; cases hzi
    have htag := (hok'.on it hit hb).2 _ hzi
    rw [Int.toNat_natCast] at htag
    have e := hc.2
    rw [htag, ByteArray.toList_eq, ByteArray.toList_eq] at e
    have e3 := plus_inj (ByteArray.ext (Array.toList_inj.1 e))
    rw [← hxt] at e3
    have := look_eq hok'.nd hit e3
    rw [hlg] at this
    rw [← Option.some.inj this] at hzi
    cases hzi
  · rw [a1, a5]
    omega
  · unfold readE
    rw [← hxt, hlg]
    simp [gone]
  · rw [← hxt]
    exact (hok.nm x x1).2
theorem Y1.stop {wt : Nat → List Int} {n : Nat} {s : Pl} {L : List It} (h : Y1 wt n s L []) : yieldB L = false ∧ yieldP s L = (s, L) := by
  have ho := h.ord
  have hf : L.find? loose = none := by
    have := List.head?_filter (p := loose) (l := L)
    rw [List.map_eq_nil_iff.1 ho] at this
    exact this.symm
  exact ⟨by unfold yieldB; rw [hf]; rfl, by unfold yieldP; rw [hf]⟩

end Go.Proofs.Ytfggkkhehaafcaa

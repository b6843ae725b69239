/- Weights on a shelf as plain values: what is released, and what holds of all of it. -/
import Derived.Test.YtfggkkhehaafcaaRows
import Derived.Test.YtfggkkhehaafcaaPages
import Derived.Test.YtfggkkhehaafcaaView
import Derived.Test.YtfggkkhehaafcaaOwn
import Derived.Test.YtfggkkhehaafcaaReadsP
import Derived.Test.YtfggkkhehaafcaaReadsQ
import Derived.Test.YtfggkkhehaafcaaLeast
import Derived.Test.YtfggkkhehaafcaaLays
import Derived.Test.YtfggkkhehaafcaaTurns
import Derived.Test.YtfggkkhehaafcaaNews
import Derived.Test.YtfggkkhehaafcaaGoods
import Derived.Test.YtfggkkhehaafcaaPlain
import Derived.Test.YtfggkkhehaafcaaLies
import Derived.WalkKit
import Derived.ProofKit
import Derived.OpenShut
import Derived.Below
import Derived.WalkLawsBesides
import Derived.Deep.QuietTactic
import Derived.BigQuiet
namespace Go.Proofs.Ytfggkkhehaafcaa
open Go.ChangeShapes Go.WideShapes Go.ChangeAt Go.RowKit
set_option linter.unusedVariables false
set_option linter.unusedSimpArgs false

/-- weights on the shelf: their name, the weights, their pages, whether they are resident, how often they are held -/
structure It where
  nm : ByteArray
  W : List Int
  P : List Int
  is : Bool
  pins : Nat

def look (L : List It) (n : ByteArray) : Option It := L.find? fun x => decide (x.nm = n)
def res (L : List It) : List It := L.filter (fun x => x.is)
def names (L : List It) : List ByteArray := (res L).map (fun x => x.nm)
def loose (x : It) : Bool := x.is && x.pins == 0
def chg (f : It → It) (n : ByteArray) (L : List It) : List It := L.map fun x => if x.nm = n then f x else x
def gone (x : It) : It := { x with is := false, P := [] }
def rel (L : List It) (n : ByteArray) : List It := chg gone n L
def rem (L : List It) (n : ByteArray) : List It := L.filter fun x => !decide (x.nm = n)
def hand (s : Pl) : Int := (freeTo s.pg s.n : Int) - s.aside
def looseP (L : List It) : List Int := (L.filter loose).flatMap (fun x => x.P)
def roomZ (s : Pl) (L : List It) : Int := hand s + (looseP L).length
def plus (n : ByteArray) : ByteArray := ⟨#[43]⟩ ++ n

theorem look_some {L : List It} {n : ByteArray} {x : It} (h : look L n = some x) : x ∈ L ∧ x.nm = n := by
  refine ⟨List.mem_of_find?_eq_some h, ?_⟩
  have := List.find?_some h
  simpa using this
theorem look_none {L : List It} {n : ByteArray} (h : look L n = none) : ∀ x ∈ L, x.nm ≠ n := fun x hx => by
  have := List.find?_eq_none.1 h x hx
  simpa using this
theorem look_none_of {L : List It} {n : ByteArray} (h : ∀ x ∈ L, x.nm ≠ n) : look L n = none := List.find?_eq_none.2 fun x hx => by simpa using h x hx

/-- names that are apart -/
def Nd (L : List It) : Prop := L.Pairwise fun x y => x.nm ≠ y.nm
theorem Nd.tail {x : It} {L : List It} (h : Nd (x :: L)) : Nd L := (List.pairwise_cons.1 h).2
theorem look_mem {L : List It} (h : Nd L) {x : It} (hx : x ∈ L) : look L x.nm = some x := by
  induction L with
  | nil => cases hx
  | cons y r ih =>
    obtain ⟨h1, h2⟩ := List.pairwise_cons.1 h
    unfold look
    rw [List.find?_cons]
    rcases List.mem_cons.1 hx with rfl | hx
    · simp
    · have e : ¬ y.nm = x.nm := h1 x hx
      simp only [e, decide_false]
      exact ih h2 hx
theorem look_eq {L : List It} (h : Nd L) {x : It} {n : ByteArray} (hx : x ∈ L) (hn : x.nm = n) : look L n = some x := by rw [← hn]; exact look_mem h hx
theorem mem_same {L : List It} (h : Nd L) {x y : It} (hx : x ∈ L) (hy : y ∈ L) (e : x.nm = y.nm) : x = y := by
  have a := look_mem h hx
  rw [e, look_mem h hy] at a
  exact (Option.some.inj a).symm

/-- one is changed -/
theorem look_chg (f : It → It) (hf : ∀ x, (f x).nm = x.nm) (n m : ByteArray) (L : List It) : look (chg f n L) m = if m = n then (look L m).map f else look L m := by
  induction L with
  | nil => simp [look, chg]
  | cons y r ih =>
    unfold look chg at ih ⊢
    rw [List.map_cons, List.find?_cons, List.find?_cons]
    by_cases e : y.nm = n
    · rw [if_pos e]
      by_cases e' : y.nm = m
      · have em : m = n := e'.symm.trans e
        simp [hf, e', em]
      · simp only [hf, e', decide_false]
        exact ih
    · rw [if_neg e]
      by_cases e' : y.nm = m
      · have em : ¬ m = n := fun x => e (e'.trans x)
        simp [e', em]
      · simp only [e', decide_false]
        exact ih
theorem chg_mem (f : It → It) (n : ByteArray) {L : List It} {x : It} (h : x ∈ chg f n L) : ∃ y ∈ L, (y.nm = n ∧ x = f y) ∨ (y.nm ≠ n ∧ x = y) := by
  obtain ⟨y, hy, e⟩ := List.mem_map.1 h
  by_cases c : y.nm = n
  · rw [if_pos c] at e
    exact ⟨y, hy, .inl ⟨c, e.symm⟩⟩
  · rw [if_neg c] at e
    exact ⟨y, hy, .inr ⟨c, e.symm⟩⟩
theorem chg_len (f : It → It) (n : ByteArray) (L : List It) : (chg f n L).length = L.length := by simp [chg]
theorem Nd.chg {L : List It} (h : Nd L) (f : It → It) (hf : ∀ x, (f x).nm = x.nm) (n : ByteArray) : Nd (chg f n L) := by
  refine List.pairwise_map.2 (List.Pairwise.imp (fun {x y} e => ?_) h)
  have ex : (if x.nm = n then f x else x).nm = x.nm := by split <;> simp [hf]
  have ey : (if y.nm = n then f y else y).nm = y.nm := by split <;> simp [hf]
  rw [ex, ey]
  exact e
theorem chg_none (f : It → It) (n : ByteArray) (L : List It) (h : ∀ x ∈ L, x.nm ≠ n) : chg f n L = L := by
  induction L with
  | nil => rfl
  | cons y r ih =>
    have := ih fun x hx => h x (by simp [hx])
    unfold Ytfggkkhehaafcaa.chg at this ⊢
    rw [List.map_cons, if_neg (h y (by simp)), this]

theorem look_rem (n m : ByteArray) (L : List It) : look (rem L n) m = if m = n then none else look L m := by
  induction L with
  | nil => simp [look, rem]
  | cons y r ih =>
    unfold look rem at ih ⊢
    by_cases e : y.nm = n
    · rw [List.filter_cons_of_neg (by simp [e]), ih, List.find?_cons]
      by_cases em : m = n
      · simp [em]
      · have : ¬ y.nm = m := fun x => em (x.symm.trans e)
        simp [this, em]
    · rw [List.filter_cons_of_pos (by simp [e]), List.find?_cons, List.find?_cons, ih]
      by_cases e' : y.nm = m
      · have : ¬ m = n := fun x => e (e'.trans x)
        simp [e', this]
      · simp [e']
theorem rem_mem {n : ByteArray} {L : List It} {x : It} : x ∈ rem L n ↔ x ∈ L ∧ x.nm ≠ n := by simp [rem]
theorem rem_len (n : ByteArray) (L : List It) : (rem L n).length ≤ L.length := List.length_filter_le _ _
theorem Nd.rem {L : List It} (h : Nd L) (n : ByteArray) : Nd (rem L n) := List.Pairwise.filter _ h
theorem Nd.snoc {L : List It} (h : Nd L) (x : It) (hx : ∀ y ∈ L, y.nm ≠ x.nm) : Nd (L ++ [x]) :=
  List.pairwise_append.2 ⟨h, List.pairwise_singleton _ _, fun y hy z hz => by rw [List.mem_singleton.1 hz]; exact hx y hy⟩
theorem look_snoc (L : List It) (x : It) (m : ByteArray) (hx : ∀ y ∈ L, y.nm ≠ x.nm) : look (L ++ [x]) m = if m = x.nm then some x else look L m := by
  unfold look
  rw [List.find?_append]
  by_cases e : m = x.nm
  · subst e
    have : L.find? (fun y => decide (y.nm = x.nm)) = none := look_none_of hx
    simp [this]
  · have : ¬ x.nm = m := fun c => e c.symm
    simp [e, this]

/-- the order of pinning -/
theorem names_rel (L : List It) (n : ByteArray) : names (rel L n) = (names L).filter (fun u => !decide (u = n)) := by
  induction L with
  | nil => rfl
  | cons y r ih =>
    unfold names res rel chg at ih ⊢
    by_cases e : y.nm = n
    · rw [List.map_cons, if_pos e, List.filter_cons_of_neg (by simp [gone]), ih]
      by_cases b : y.is = true
      · rw [List.filter_cons_of_pos (by simpa using b), List.map_cons, List.filter_cons_of_neg (by simp [e])]
      · rw [List.filter_cons_of_neg (by simpa using b)]
    · rw [List.map_cons, if_neg e]
      by_cases b : y.is = true
      · rw [List.filter_cons_of_pos (by simpa using b), List.filter_cons_of_pos (by simpa using b), List.map_cons, List.map_cons, ih, List.filter_cons_of_pos (by simp [e])]
      · rw [List.filter_cons_of_neg (by simpa using b), List.filter_cons_of_neg (by simpa using b), ih]
theorem names_rem (L : List It) (n : ByteArray) : names (rem L n) = (names L).filter (fun u => !decide (u = n)) := by
  unfold names res rem
  rw [List.filter_map, List.filter_filter, List.filter_filter]
  congr 1
  congr 1
  funext x
  simp [Bool.and_comm]
theorem names_chg (f : It → It) (hf : ∀ x, (f x).nm = x.nm) (hi : ∀ x, (f x).is = x.is) (n : ByteArray) (L : List It) : names (chg f n L) = names L := by
  induction L with
  | nil => rfl
  | cons y r ih =>
    unfold names res chg at ih ⊢
    have ei : (if y.nm = n then f y else y).is = y.is := by split <;> simp [hi]
    have en : (if y.nm = n then f y else y).nm = y.nm := by split <;> simp [hf]
    by_cases b : y.is = true
    · rw [List.map_cons, List.filter_cons_of_pos (by rw [ei]; exact b), List.filter_cons_of_pos b, List.map_cons, List.map_cons, ih, en]
    · rw [List.map_cons, List.filter_cons_of_neg (by rw [ei]; exact b), List.filter_cons_of_neg b, ih]
theorem names_snoc (L : List It) (x : It) : names (L ++ [x]) = names L ++ (if x.is = true then [x.nm] else []) := by
  unfold names res
  rw [List.filter_append, List.map_append]
  by_cases b : x.is = true
  · simp [b]
  · simp [b]
theorem names_nd {L : List It} (h : Nd L) : (names L).Nodup := by
  unfold names res
  exact List.pairwise_map.2 (List.Pairwise.filter _ h)
theorem names_mem {L : List It} {n : ByteArray} : n ∈ names L ↔ ∃ x ∈ L, x.is = true ∧ x.nm = n := by
  unfold names res
  simp [and_assoc]
theorem names_is {L : List It} (h : Nd L) {x : It} (hx : x ∈ L) : x.nm ∈ names L ↔ x.is = true := by
  rw [names_mem]
  constructor
  · rintro ⟨y, hy, hi, e⟩
    rw [← mem_same h hy hx e]
    exact hi
  · exact fun e => ⟨x, hx, e, rfl⟩
theorem names_len (L : List It) : (names L).length ≤ L.length := by
  unfold names res
  rw [List.length_map]
  exact List.length_filter_le _ _

/-- what holds of a shelf and its pool -/
structure ShOk (cap : Nat) (s : Pl) (L : List It) : Prop where
  good : Good 1 s
  nd : Nd L
  nm : ∀ x ∈ L, 1 ≤ x.nm.size ∧ x.nm.size ≤ 16
  wts : ∀ x ∈ L, x.W.length ≤ 2000 ∧ ∀ z ∈ x.W, (Lit.int .i8 z).wf = true
  off : ∀ x ∈ L, x.is = false → x.P = [] ∧ x.pins = 0
  on : ∀ x ∈ L, x.is = true → Lies s x.P x.W 1 ∧ ∀ z ∈ x.P, (s.pg z.toNat).tag = plus x.nm
  apart : L.Pairwise fun x y => ∀ z ∈ x.P, z ∉ y.P
  pins : ∀ x ∈ L, x.pins ≤ cap
  few : L.length ≤ cap

theorem ShOk.mono {cap cap' : Nat} {s : Pl} {L : List It} (h : ShOk cap s L) (hc : cap ≤ cap') : ShOk cap' s L :=
  ⟨h.good, h.nd, h.nm, h.wts, h.off, h.on, h.apart, fun x hx => Nat.le_trans (h.pins x hx) hc, Nat.le_trans h.few hc⟩

theorem apart_mem {L : List It} (h : L.Pairwise fun x y => ∀ z ∈ x.P, z ∉ y.P) {x y : It} (hx : x ∈ L) (hy : y ∈ L) (hne : x ≠ y) : ∀ z ∈ x.P, z ∉ y.P := by
  induction L with
  | nil => cases hx
  | cons u r ih =>
    obtain ⟨h1, h2⟩ := List.pairwise_cons.1 h
    rcases List.mem_cons.1 hx with rfl | hx'
    · rcases List.mem_cons.1 hy with rfl | hy'
      · exact absurd rfl hne
      · exact h1 y hy'
    · rcases List.mem_cons.1 hy with rfl | hy'
      · exact fun z hz hz' => h1 x hx' z hz' hz
      · exact ih h2 hx' hy'

/-- pages of what is resident have one owner -/
theorem ShOk.owned {cap : Nat} {s : Pl} {L : List It} (h : ShOk cap s L) {x : It} (hx : x ∈ L) : Owned s x.P 1 := by
  by_cases b : x.is = true
  · exact (h.on x hx b).1.own
  · have := (h.off x hx (by simpa using b)).1
    rw [this]
    exact ⟨List.nodup_nil, fun z hz => by cases hz⟩
theorem ShOk.pageLen {cap : Nat} {s : Pl} {L : List It} (h : ShOk cap s L) {x : It} (hx : x ∈ L) : x.P.length ≤ 63 := by
  by_cases b : x.is = true
  · have := (h.on x hx b).1.len
    have := (h.wts x hx).1
    omega
  · rw [(h.off x hx (by simpa using b)).1]
    exact Nat.zero_le _

/-- released -/
theorem relS_owned {s : Pl} {P : List Int} (h : Owned s P 1) :
    relE s P = 0 ∧ (relS s P).n = s.n ∧ (relS s P).aside = s.aside ∧ (∀ x : Nat, (x : Int) ∈ P → ((relS s P).pg x).ow = 0) ∧ (∀ x : Nat, (x : Int) ∉ P → (relS s P).pg x = s.pg x) ∧ freeTo (relS s P).pg s.n = freeTo s.pg s.n + P.length := by
  have hb := h.rel (Int.le_refl 1)
  have e : relS s P = P.foldl drS s := by unfold relS; rw [if_pos hb]
  obtain ⟨a1, a2, a3, a4⟩ := steps_all dropPg P s h.1 (h.used (by decide))
  rw [← drS_step] at a1 a2 a3 a4
  rw [e]
  refine ⟨by unfold relE; rw [if_pos hb], a1, a2, fun x hx => ?_, a4, drops_free P s h⟩
  rw [a3 x hx]
  have := (h.2 _ hx).2.2
  rw [Int.toNat_natCast] at this
  unfold dropPg
  rw [this]
  rfl
theorem hand_rel {s : Pl} {P : List Int} (h : Owned s P 1) : hand (relS s P) = hand s + P.length := by
  obtain ⟨_, a1, a2, _, _, a5⟩ := relS_owned h
  unfold hand
  rw [a1, a2, a5]
  omega

theorem gone_nm (x : It) : (gone x).nm = x.nm := rfl
/-- what was released is as it should be -/
theorem ShOk.release {cap : Nat} {s : Pl} {L : List It} (h : ShOk cap s L) {x : It} (hx : x ∈ L) (hp : x.pins = 0) : ShOk cap (relS s x.P) (rel L x.nm) := by
  have ho := h.owned hx
  obtain ⟨a0, a1, a2, a3, a4, a5⟩ := relS_owned ho
  refine ⟨h.good.relS _, h.nd.chg gone gone_nm _, fun y hy => ?_, fun y hy => ?_, fun y hy hi => ?_, fun y hy hi => ?_, ?_, fun y hy => ?_, by unfold rel; rw [chg_len]; exact h.few⟩
  · obtain ⟨u, hu, ⟨c, rfl⟩ | ⟨c, rfl⟩⟩ := chg_mem _ _ hy
    · exact h.nm u hu
    · exact h.nm y hu
  · obtain ⟨u, hu, ⟨c, rfl⟩ | ⟨c, rfl⟩⟩ := chg_mem _ _ hy
    · exact h.wts u hu
    · exact h.wts y hu
  · obtain ⟨u, hu, ⟨c, rfl⟩ | ⟨c, rfl⟩⟩ := chg_mem _ _ hy
    · have := mem_same h.nd hu hx c
      subst this
      exact ⟨rfl, hp⟩
    · exact h.off y hu hi
  · obtain ⟨u, hu, ⟨c, rfl⟩ | ⟨c, rfl⟩⟩ := chg_mem _ _ hy
    · cases hi
    · have hne : y ≠ x := fun e => c (by rw [e])
      have hap := apart_mem h.apart hu hx hne
      obtain ⟨l1, l2⟩ := h.on y hu hi
      have hs : ∀ z : Nat, (z : Int) ∈ y.P → (relS s x.P).pg z = s.pg z := fun z hz => a4 z (hap _ hz)
      refine ⟨l1.same a1 hs, fun z hz => ?_⟩
      have z0 := (l1.own.2 z hz).1
      rw [hs z.toNat (by rw [Int.toNat_of_nonneg z0]; exact hz)]
      exact l2 z hz
  · refine List.pairwise_map.2 (List.Pairwise.imp (fun {u v} e => ?_) h.apart)
    by_cases c : u.nm = x.nm
    · rw [if_pos c]
      exact fun z hz => by cases hz
    · rw [if_neg c]
      by_cases d : v.nm = x.nm
      · rw [if_pos d]
        exact fun z _ hz => by cases hz
      · rw [if_neg d]
        exact e
  · obtain ⟨u, hu, ⟨c, rfl⟩ | ⟨c, rfl⟩⟩ := chg_mem _ _ hy
    · exact h.pins u hu
    · exact h.pins y hu

/-- what could be had does not change by releasing -/
theorem looseP_rel {L : List It} (h : Nd L) {x : It} (hx : x ∈ L) (hl : loose x = true) : (looseP (rel L x.nm)).length + x.P.length = (looseP L).length ∧ ((rel L x.nm).filter loose).length + 1 = (L.filter loose).length := by
  induction L with
  | nil => cases hx
  | cons y r ih =>
    obtain ⟨h1, h2⟩ := List.pairwise_cons.1 h
    by_cases e : y.nm = x.nm
    · have ey : y = x := mem_same h (by simp) hx e
      subst ey
      have er : rel (y :: r) y.nm = gone y :: r := by
        show chg gone y.nm (y :: r) = _
        have := chg_none gone y.nm r (fun u hu c => h1 u hu c.symm)
        unfold chg at this ⊢
        rw [List.map_cons, if_pos rfl, this]
      have eg : ¬ loose (gone y) = true := by simp [loose, gone]
      unfold looseP
      rw [er, List.filter_cons_of_neg eg, List.filter_cons_of_pos hl, List.flatMap_cons, List.length_append, List.length_cons]
      omega
    · have hx' : x ∈ r := by
        rcases List.mem_cons.1 hx with c | c
        · rw [c] at e
          exact absurd rfl e
        · exact c
      obtain ⟨i1, i2⟩ := ih h2 hx'
      have er : rel (y :: r) x.nm = y :: rel r x.nm := by
        show chg gone x.nm (y :: r) = _
        unfold rel chg
        rw [List.map_cons, if_neg e]
      unfold looseP at i1 ⊢
      rw [er]
      by_cases b : loose y = true
      · rw [List.filter_cons_of_pos b, List.filter_cons_of_pos b, List.flatMap_cons, List.flatMap_cons, List.length_append, List.length_append, List.length_cons, List.length_cons]
        omega
      · rw [List.filter_cons_of_neg b, List.filter_cons_of_neg b]
        exact ⟨i1, i2⟩
theorem room_rel {cap : Nat} {s : Pl} {L : List It} (h : ShOk cap s L) {x : It} (hx : x ∈ L) (hl : loose x = true) : roomZ (relS s x.P) (rel L x.nm) = roomZ s L := by
  unfold roomZ
  rw [hand_rel (h.owned hx)]
  have := (looseP_rel h.nd hx hl).1
  omega

/-- as long as fewer pages are at hand, the one that was pinned longest ago is released -/
def yields : Nat → Pl → List It → Int → Pl × List It
  | 0, s, L, _ => (s, L)
  | k + 1, s, L, n => if hand s < n then (match L.find? loose with | none => (s, L) | some x => yields k (relS s x.P) (rel L x.nm) n) else (s, L)
def yieldsAll (s : Pl) (L : List It) (n : Int) : Pl × List It := yields (L.filter loose).length s L n

theorem find_loose {L : List It} {x : It} (h : L.find? loose = some x) : x ∈ L ∧ x.is = true ∧ x.pins = 0 := by
  have h1 := List.mem_of_find?_eq_some h
  have h2 := List.find?_some h
  simp only [loose, Bool.and_eq_true, beq_iff_eq] at h2
  exact ⟨h1, h2⟩
theorem loose_of {x : It} (h1 : x.is = true) (h2 : x.pins = 0) : loose x = true := by simp [loose, h1, h2]

theorem yieldsAll_stop {s : Pl} {L : List It} {n : Int} (h : ¬ hand s < n) : yieldsAll s L n = (s, L) := by
  unfold yieldsAll
  cases (L.filter loose).length with
  | zero => rfl
  | succ k => simp only [yields]; rw [if_neg h]
theorem yieldsAll_step {s : Pl} {L : List It} {n : Int} (hn : Nd L) {x : It} (h : hand s < n) (hx : L.find? loose = some x) : yieldsAll s L n = yieldsAll (relS s x.P) (rel L x.nm) n := by
  obtain ⟨h1, h2, h3⟩ := find_loose hx
  have := (looseP_rel hn h1 (loose_of h2 h3)).2
  unfold yieldsAll
  rw [← this]
  simp only [yields]
  rw [if_pos h, hx]
theorem room_loose {s : Pl} {L : List It} {n : Int} (h : hand s < n) (hr : n ≤ roomZ s L) : ∃ x, L.find? loose = some x := by
  cases e : L.find? loose with
  | some x => exact ⟨x, rfl⟩
  | none =>
    exfalso
    have : L.filter loose = [] := by
      rw [List.filter_eq_nil_iff]
      exact fun a ha => List.find?_eq_none.1 e a ha
    unfold roomZ looseP at hr
    rw [this] at hr
    simp at hr
    omega

/-- what is released on the way: who is not loose stays as it is -/
theorem yieldsAll_ok {cap : Nat} {n : Int} : ∀ (k : Nat) (s : Pl) (L : List It), (L.filter loose).length = k → ShOk cap s L → n ≤ roomZ s L →
    ShOk cap (yieldsAll s L n).1 (yieldsAll s L n).2 ∧ n ≤ hand (yieldsAll s L n).1 ∧ (∀ m x, look L m = some x → loose x = false → look (yieldsAll s L n).2 m = some x) ∧ (∀ m, look L m = none → look (yieldsAll s L n).2 m = none) := by
  intro k
  induction k with
  | zero =>
    intro s L hk h hr
    by_cases c : hand s < n
    · obtain ⟨x, hx⟩ := room_loose c hr
      obtain ⟨h1, h2, h3⟩ := find_loose hx
      have := (looseP_rel h.nd h1 (loose_of h2 h3)).2
      omega
    · rw [yieldsAll_stop c]
      exact ⟨h, by simp only; omega, fun _ _ e _ => e, fun _ e => e⟩
  | succ k ih =>
    intro s L hk h hr
    by_cases c : hand s < n
    · obtain ⟨x, hx⟩ := room_loose c hr
      obtain ⟨h1, h2, h3⟩ := find_loose hx
      have hl := loose_of h2 h3
      rw [yieldsAll_step h.nd c hx]
      obtain ⟨i1, i2, i3, i4⟩ := ih (relS s x.P) (rel L x.nm) (by have := (looseP_rel h.nd h1 hl).2; omega) (h.release h1 h3) (by rw [room_rel h h1 hl]; exact hr)
      refine ⟨i1, i2, fun m y hy hy' => i3 m y ?_ hy', fun m hm => i4 m ?_⟩
      · unfold rel
        rw [look_chg gone gone_nm, if_neg, hy]
        rintro rfl
        rw [look_mem h.nd h1] at hy
        rw [← Option.some.inj hy, hl] at hy'
        cases hy'
      · unfold rel
        rw [look_chg gone gone_nm]
        split
        · rw [hm]; rfl
        · exact hm
    · rw [yieldsAll_stop c]
      exact ⟨h, by simp only; omega, fun _ _ e _ => e, fun _ e => e⟩

end Go.Proofs.Ytfggkkhehaafcaa

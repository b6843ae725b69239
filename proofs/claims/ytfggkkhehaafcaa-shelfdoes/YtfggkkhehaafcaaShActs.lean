/- What is put, removed, pinned, unpinned and yielded, as plain values; what holds behind each. -/
import Derived.Test.YtfggkkhehaafcaaRows
import Derived.Test.YtfggkkhehaafcaaPages
import Derived.Test.YtfggkkhehaafcaaView
import Derived.Test.YtfggkkhehaafcaaOwn
import Derived.Test.YtfggkkhehaafcaaReadsP
import Derived.Test.YtfggkkhehaafcaaReadsQ
import Derived.Test.YtfggkkhehaafcaaLeast
import Derived.Test.YtfggkkhehaafcaaLays
import Derived.Test.YtfggkkhehaafcaaTurns
import Derived.Test.YtfggkkhehaafcaaNews
import Derived.Test.YtfggkkhehaafcaaGoods
import Derived.Test.YtfggkkhehaafcaaPlain
import Derived.Test.YtfggkkhehaafcaaLies
import Derived.Test.YtfggkkhehaafcaaShPlain
import Derived.WalkKit
import Derived.ProofKit
import Derived.OpenShut
import Derived.Below
import Derived.WalkLawsBesides
import Derived.Deep.QuietTactic
import Derived.BigQuiet
namespace Go.Proofs.Ytfggkkhehaafcaa
open Go.ChangeShapes Go.WideShapes Go.ChangeAt Go.RowKit
set_option linter.unusedVariables false
set_option linter.unusedSimpArgs false

def putE (L : List It) (n : ByteArray) : Int := if n.size < 1 ∨ 16 < n.size then 20 else match look L n with | some _ => 26 | none => 0
def putL (L : List It) (n : ByteArray) (W : List Int) : List It := if putE L n = 0 then L ++ [⟨n, W, [], false, 0⟩] else L
def remE (L : List It) (n : ByteArray) : Int := match look L n with | none => 25 | some x => if 0 < x.pins then 27 else 0
def remS (s : Pl) (L : List It) (n : ByteArray) : Pl := match look L n with | none => s | some x => if 0 < x.pins then s else relS s x.P
def remL (L : List It) (n : ByteArray) : List It := if remE L n = 0 then rem L n else L
def less (x : It) : It := { x with pins := x.pins - 1 }
def unpE (L : List It) (n : ByteArray) : Int := match look L n with | none => 25 | some x => if x.pins = 0 then 27 else 0
def unpL (L : List It) (n : ByteArray) : List It := if unpE L n = 0 then chg less n L else L
def pinsZ (L : List It) (n : ByteArray) : Int := match look L n with | none => -1 | some x => x.pins
def readE (s : Pl) (L : List It) (n : ByteArray) : Int := match look L n with | none => 25 | some x => if x.is = true then fetchE s x.P x.W.length else 27
def readV (s : Pl) (L : List It) (n : ByteArray) : List Int := match look L n with | none => [] | some x => if x.is = true then fetchR s x.P x.W.length else []
def bump (L : List It) (x : It) : List It := rem L x.nm ++ [{ x with pins := x.pins + 1 }]
def pinE (s : Pl) (L : List It) (n : ByteArray) : Int := match look L n with | none => 25 | some x => if x.is = true then 0 else if roomZ s L < needZ x.W.length then 6 else 0
def laidIt (s : Pl) (x : It) : It := { x with P := placeR s (plus x.nm) x.W, is := true }
def pinP (s : Pl) (L : List It) (n : ByteArray) : Pl × List It :=
  match look L n with
  | none => (s, L)
  | some x =>
    if x.is = true then (s, bump L x)
    else if roomZ s L < needZ x.W.length then (s, L)
    else (placeS (yieldsAll s L (needZ x.W.length)).1 (plus x.nm) x.W, bump (yieldsAll s L (needZ x.W.length)).2 (laidIt (yieldsAll s L (needZ x.W.length)).1 x))
def yieldB (L : List It) : Bool := (L.find? loose).isSome
def yieldP (s : Pl) (L : List It) : Pl × List It := match L.find? loose with | none => (s, L) | some x => (relS s x.P, rel L x.nm)

theorem plus_ne (n : ByteArray) : ¬ (plus n).toList = [] := by
  rw [ByteArray.toList_eq]
  unfold plus
  intro e
  have := congrArg List.length e
  simp at this
theorem plus_inj {n m : ByteArray} (h : plus n = plus m) : n = m := by
  unfold plus at h
  have := congrArg (fun b : ByteArray => b.data.toList) h
  simp at this
  exact ByteArray.ext this

theorem ShOk.put {cap : Nat} {s : Pl} {L : List It} (h : ShOk cap s L) (n : ByteArray) (W : List Int) (hW : W.length ≤ 2000) (hw : ∀ z ∈ W, (Lit.int .i8 z).wf = true) : ShOk (cap + 1) s (putL L n W) := by
  unfold putL
  by_cases e : putE L n = 0
  · rw [if_pos e]
    unfold putE at e
    split at e
    · omega
    · rename_i c
      split at e
      · omega
      · rename_i hl
        have hn := look_none hl
        refine ⟨h.good, h.nd.snoc _ (fun y hy => hn y hy), fun x hx => ?_, fun x hx => ?_, fun x hx hi => ?_, fun x hx hi => ?_, ?_, fun x hx => ?_, ?_⟩
        · rcases List.mem_append.1 hx with hx | hx
          · exact h.nm x hx
          · rw [List.mem_singleton.1 hx]
            show 1 ≤ n.size ∧ n.size ≤ 16
            omega
        · rcases List.mem_append.1 hx with hx | hx
          · exact h.wts x hx
          · rw [List.mem_singleton.1 hx]
            exact ⟨hW, hw⟩
        · rcases List.mem_append.1 hx with hx | hx
          · exact h.off x hx hi
          · rw [List.mem_singleton.1 hx]
            exact ⟨rfl, rfl⟩
        · rcases List.mem_append.1 hx with hx | hx
          · exact h.on x hx hi
          · rw [List.mem_singleton.1 hx] at hi
            cases hi
        · exact List.pairwise_append.2 ⟨h.apart, List.pairwise_singleton _ _, fun x _ y hy z _ hz => by rw [List.mem_singleton.1 hy] at hz; cases hz⟩
        · rcases List.mem_append.1 hx with hx | hx
          · exact Nat.le_succ_of_le (h.pins x hx)
          · rw [List.mem_singleton.1 hx]
            exact Nat.zero_le _
        · rw [List.length_append]
          have := h.few
          simp only [List.length_cons, List.length_nil]
          omega
  · rw [if_neg e]
    exact h.mono (Nat.le_succ _)

theorem ShOk.remOf {cap : Nat} {s : Pl} {L : List It} (h : ShOk cap s L) (n : ByteArray) : ShOk cap s (Ytfggkkhehaafcaa.rem L n) :=
  ⟨h.good, h.nd.rem n, fun x hx => h.nm x (rem_mem.1 hx).1, fun x hx => h.wts x (rem_mem.1 hx).1, fun x hx => h.off x (rem_mem.1 hx).1, fun x hx => h.on x (rem_mem.1 hx).1, h.apart.filter _, fun x hx => h.pins x (rem_mem.1 hx).1, Nat.le_trans (rem_len n L) h.few⟩
theorem rem_rel (L : List It) (n : ByteArray) : Ytfggkkhehaafcaa.rem (rel L n) n = Ytfggkkhehaafcaa.rem L n := by
  induction L with
  | nil => rfl
  | cons y r ih =>
    unfold Ytfggkkhehaafcaa.rem rel chg at ih ⊢
    by_cases e : y.nm = n
    · rw [List.map_cons, if_pos e, List.filter_cons_of_neg (by simp [gone, e]), List.filter_cons_of_neg (by simp [e]), ih]
    · rw [List.map_cons, if_neg e, List.filter_cons_of_pos (by simp [e]), List.filter_cons_of_pos (by simp [e]), ih]
theorem ShOk.remove {cap : Nat} {s : Pl} {L : List It} (h : ShOk cap s L) (n : ByteArray) : ShOk cap (remS s L n) (remL L n) := by
  cases hl : look L n with
  | none =>
    have e1 : remS s L n = s := by unfold remS; rw [hl]
    have e2 : remL L n = L := by unfold remL; rw [if_neg]; unfold remE; rw [hl]; decide
    rw [e1, e2]
    exact h
  | some x =>
    obtain ⟨hx, hn⟩ := look_some hl
    by_cases c : 0 < x.pins
    · have e1 : remS s L n = s := by unfold remS; rw [hl]; simp only; rw [if_pos c]
      have e0 : remE L n = 27 := by unfold remE; rw [hl]; simp only; rw [if_pos c]
      have e2 : remL L n = L := by unfold remL; rw [if_neg (by rw [e0]; decide)]
      rw [e1, e2]
      exact h
    · have e1 : remS s L n = relS s x.P := by unfold remS; rw [hl]; simp only; rw [if_neg c]
      have e0 : remE L n = 0 := by unfold remE; rw [hl]; simp only; rw [if_neg c]
      have e2 : remL L n = Ytfggkkhehaafcaa.rem L n := by unfold remL; rw [if_pos e0]
      rw [e1, e2]
      have := (h.release hx (by omega)).remOf n
      rw [hn, rem_rel] at this
      exact this

theorem less_nm (x : It) : (less x).nm = x.nm := rfl
theorem ShOk.unpin {cap : Nat} {s : Pl} {L : List It} (h : ShOk cap s L) (n : ByteArray) : ShOk cap s (unpL L n) := by
  unfold unpL
  by_cases e : unpE L n = 0
  · rw [if_pos e]
    refine ⟨h.good, h.nd.chg less less_nm _, fun y hy => ?_, fun y hy => ?_, fun y hy hi => ?_, fun y hy hi => ?_, ?_, fun y hy => ?_, by rw [chg_len]; exact h.few⟩
    · obtain ⟨u, hu, ⟨c, rfl⟩ | ⟨c, rfl⟩⟩ := chg_mem _ _ hy
      · exact h.nm u hu
      · exact h.nm y hu
    · obtain ⟨u, hu, ⟨c, rfl⟩ | ⟨c, rfl⟩⟩ := chg_mem _ _ hy
      · exact h.wts u hu
      · exact h.wts y hu
    · obtain ⟨u, hu, ⟨c, rfl⟩ | ⟨c, rfl⟩⟩ := chg_mem _ _ hy
      · obtain ⟨a, b⟩ := h.off u hu hi
        exact ⟨a, by show u.pins - 1 = 0; omega⟩
      · exact h.off y hu hi
    · obtain ⟨u, hu, ⟨c, rfl⟩ | ⟨c, rfl⟩⟩ := chg_mem _ _ hy
      · exact h.on u hu hi
      · exact h.on y hu hi
    · refine List.pairwise_map.2 (List.Pairwise.imp (fun {u v} e => ?_) h.apart)
      have eu : (if u.nm = n then less u else u).P = u.P := by split <;> rfl
      have ev : (if v.nm = n then less v else v).P = v.P := by split <;> rfl
      rw [eu, ev]
      exact e
    · obtain ⟨u, hu, ⟨c, rfl⟩ | ⟨c, rfl⟩⟩ := chg_mem _ _ hy
      · have := h.pins u hu
        show u.pins - 1 ≤ cap
        omega
      · exact h.pins y hu
  · rw [if_neg e]
    exact h

theorem ShOk.yield {cap : Nat} {s : Pl} {L : List It} (h : ShOk cap s L) : ShOk cap (yieldP s L).1 (yieldP s L).2 := by
  unfold yieldP
  cases e : L.find? loose with
  | none => exact h
  | some x =>
    obtain ⟨h1, h2, h3⟩ := find_loose e
    exact h.release h1 h3

/-- the pool is changed, but no page of what is resident -/
theorem ShOk.pool {cap : Nat} {s s' : Pl} {L : List It} (h : ShOk cap s L) (hg : Good 1 s') (hn : s'.n = s.n) (hp : ∀ x ∈ L, ∀ z : Nat, (z : Int) ∈ x.P → s'.pg z = s.pg z) : ShOk cap s' L :=
  ⟨hg, h.nd, h.nm, h.wts, h.off, fun x hx hi => by
    obtain ⟨l1, l2⟩ := h.on x hx hi
    refine ⟨l1.same hn (hp x hx), fun z hz => ?_⟩
    have z0 := (l1.own.2 z hz).1
    rw [hp x hx z.toNat (by rw [Int.toNat_of_nonneg z0]; exact hz)]
    exact l2 z hz, h.apart, h.pins, h.few⟩

/-- pages that were placed have the tag -/
theorem placed_tag {m : Nat} {s : Pl} (hG : Good m s) (t : ByteArray) (W : List Int) (h0 : placeE s t W = 0) : ∀ z ∈ placeR s t W, ((placeS s t W).pg z.toNat).tag = t := by
  have hlen := placeR_len hG.a0 h0
  have h0' : takeE s t (needZ W.length) = 0 := h0
  have eR : placeR s t W = tk s.pg (needZ W.length).toNat s.n := by unfold placeR takeR; rw [if_pos h0']
  have eT : takeS s t (needZ W.length) = { s with pg := takeP s.pg t (needZ W.length).toNat s.n } := by unfold takeS; rw [if_pos h0']
  have eS : placeS s t W = (putTo (takeS s t (needZ W.length)) W (spots (placeR s t W) W.length)).2 := by unfold placeS; rw [if_pos h0]
  obtain ⟨K, eK⟩ : ∃ K, (needZ W.length).toNat = K := ⟨_, rfl⟩
  rw [eK] at eR eT
  have hmem : ∀ z ∈ placeR s t W, 0 ≤ z ∧ z < (s.n : Int) ∧ takeP s.pg t K s.n z.toNat = newPg t := fun z hz => by
    rw [eR] at hz
    obtain ⟨z0, z1⟩ := tk_lt s.pg K s.n z hz
    obtain ⟨x, rfl⟩ : ∃ x : Nat, z = (x : Int) := ⟨z.toNat, by omega⟩
    obtain ⟨q1, q2, q3⟩ := (tk_mem s.pg K s.n x).1 hz
    refine ⟨z0, z1, ?_⟩
    simp only [Int.toNat_natCast, takeP]
    rw [if_pos ⟨q1, q2, q3⟩]
  have hO : Owned (takeS s t (needZ W.length)) (placeR s t W) 1 := by
    refine ⟨by rw [eR]; exact tk_nodup _ _ _, fun z hz => ?_⟩
    obtain ⟨q0, q1, q3⟩ := hmem z hz
    rw [eT]
    exact ⟨q0, q1, by show (takeP s.pg t K s.n z.toNat).ow = 1; rw [q3]; rfl⟩
  obtain ⟨a1, a2, a3, a4, a5⟩ := putTo_all hO (by decide) hlen W.length (Nat.le_refl _)
  rw [← eS] at a3
  intro z hz
  rw [(a3 z.toNat).2, eT]
  show (takeP s.pg t K s.n z.toNat).tag = t
  rw [(hmem z hz).2.2]
  rfl

theorem bump_mem {L : List It} {x y : It} (h : y ∈ bump L x) : (y ∈ L ∧ y.nm ≠ x.nm) ∨ y = { x with pins := x.pins + 1 } := by
  rcases List.mem_append.1 h with h | h
  · exact .inl (rem_mem.1 h)
  · exact .inr (List.mem_singleton.1 h)
theorem look_bump (L : List It) (x : It) (m : ByteArray) : look (bump L x) m = if m = x.nm then some { x with pins := x.pins + 1 } else look L m := by
  unfold bump
  rw [look_snoc (Ytfggkkhehaafcaa.rem L x.nm) { x with pins := x.pins + 1 } m (fun y hy => (rem_mem.1 hy).2)]
  show (if m = x.nm then _ else look (Ytfggkkhehaafcaa.rem L x.nm) m) = _
  split
  · rfl
  · rename_i c
    rw [look_rem, if_neg c]

/-- one is held once more, wherever it lies -/
theorem ShOk.bump_ {cap : Nat} {s : Pl} {L : List It} (h : ShOk cap s L) (x : It) (h1 : 1 ≤ x.nm.size ∧ x.nm.size ≤ 16) (h2 : x.W.length ≤ 2000 ∧ ∀ z ∈ x.W, (Lit.int .i8 z).wf = true) (h3 : x.is = true)
    (h4 : Lies s x.P x.W 1 ∧ ∀ z ∈ x.P, (s.pg z.toNat).tag = plus x.nm) (h5 : ∀ y ∈ L, y.nm ≠ x.nm → ∀ z ∈ y.P, z ∉ x.P) (h6 : x.pins ≤ cap) (h7 : ∃ y ∈ L, y.nm = x.nm) : ShOk (cap + 1) s (bump L x) := by
  have hr := h.remOf x.nm
  refine ⟨h.good, hr.nd.snoc _ (fun y hy => (rem_mem.1 hy).2), fun y hy => ?_, fun y hy => ?_, fun y hy hi => ?_, fun y hy hi => ?_, ?_, fun y hy => ?_, ?_⟩
  · rcases bump_mem hy with hy | rfl
    · exact h.nm y hy.1
    · exact h1
  · rcases bump_mem hy with hy | rfl
    · exact h.wts y hy.1
    · exact h2
  · rcases bump_mem hy with hy | rfl
    · exact h.off y hy.1 hi
    · rw [h3] at hi
      cases hi
  · rcases bump_mem hy with hy | rfl
    · exact h.on y hy.1 hi
    · exact h4
  · exact List.pairwise_append.2 ⟨hr.apart, List.pairwise_singleton _ _, fun y hy u hu => by
      rw [List.mem_singleton.1 hu]
      exact h5 y (rem_mem.1 hy).1 (rem_mem.1 hy).2⟩
  · rcases bump_mem hy with hy | rfl
    · exact Nat.le_succ_of_le (h.pins y hy.1)
    · exact Nat.succ_le_succ h6
  · unfold bump
    rw [List.length_append]
    have := hr.few
    simp only [List.length_cons, List.length_nil]
    omega

theorem need_room {s : Pl} {L : List It} {x : It} (h : ¬ roomZ s L < needZ x.W.length) : needZ x.W.length ≤ roomZ s L := by omega

/-- the place is had behind the yielding -/
theorem pin_place {cap : Nat} {s : Pl} {L : List It} (h : ShOk cap s L) {x : It} (hr : ¬ roomZ s L < needZ x.W.length) : placeE (yieldsAll s L (needZ x.W.length)).1 (plus x.nm) x.W = 0 := by
  obtain ⟨i1, i2, i3, i4⟩ := yieldsAll_ok (cap := cap) (n := needZ x.W.length) _ s L rfl h (need_room hr)
  unfold placeE takeE
  have := needZ_nonneg (x.W.length : Int)
  rw [if_neg (by intro c; rcases c with c | c; exact plus_ne _ c; omega), if_neg (by unfold hand at i2; omega)]

theorem ShOk.pin {cap : Nat} {s : Pl} {L : List It} (h : ShOk cap s L) (n : ByteArray) : ShOk (cap + 1) (pinP s L n).1 (pinP s L n).2 := by
  unfold pinP
  cases hl : look L n with
  | none => exact h.mono (Nat.le_succ _)
  | some x =>
    obtain ⟨hx, hn⟩ := look_some hl
    simp only
    by_cases hi : x.is = true
    · rw [if_pos hi]
      exact h.bump_ x (h.nm x hx) (h.wts x hx) hi (h.on x hx hi) (fun y hy hne => apart_mem h.apart hy hx (fun e => hne (by rw [e]))) (h.pins x hx) ⟨x, hx, rfl⟩
    · rw [if_neg hi]
      by_cases hr : roomZ s L < needZ x.W.length
      · rw [if_pos hr]
        exact h.mono (Nat.le_succ _)
      · rw [if_neg hr]
        have h0 := pin_place h hr
        obtain ⟨i1, i2, i3, i4⟩ := yieldsAll_ok (cap := cap) (n := needZ x.W.length) _ s L rfl h (need_room hr)
        obtain ⟨q, eq⟩ : ∃ q, yieldsAll s L (needZ x.W.length) = q := ⟨_, rfl⟩
        rw [eq] at h0 i1 i2 i3 i4 ⊢
        obtain ⟨p1, p2, p3, p4, p5, p6⟩ := placed i1.good (plus x.nm) x.W h0
        have ptag := placed_tag i1.good (plus x.nm) x.W h0
        have hfree : ∀ y ∈ q.2, ∀ z : Int, z ∈ y.P → z ∉ placeR q.1 (plus x.nm) x.W := fun y hy z hz hz' => by
          have a := ((i1.owned hy).2 z hz).2.2
          have b := (p5 z hz').2.2
          omega
        have hq : ShOk cap (placeS q.1 (plus x.nm) x.W) q.2 := i1.pool (i1.good.placeS (Nat.le_refl _) _ _) p2 (fun y hy z hz => p4 z (hfree y hy _ hz))
        have hx' : look q.2 x.nm = some x := by
          rw [hn]
          exact i3 n x hl (by simp [loose, hi])
        exact hq.bump_ (laidIt q.1 x) (h.nm x hx) (h.wts x hx) rfl ⟨p1, ptag⟩ (fun y hy _ z hz => hfree y hy z hz) (h.pins x hx) ⟨x, (look_some hx').1, rfl⟩

/-- what is resident is read as it was put -/
theorem ShOk.read {cap : Nat} {s : Pl} {L : List It} (h : ShOk cap s L) {n : ByteArray} {x : It} (hl : look L n = some x) (hi : x.is = true) : readE s L n = 0 ∧ readV s L n = x.W := by
  obtain ⟨hx, hn⟩ := look_some hl
  obtain ⟨a, b⟩ := (h.on x hx hi).1.fetch (by decide) (h.wts x hx).2
  unfold readE readV
  rw [hl]
  simp only [hi, if_true]
  exact ⟨a, b⟩
theorem pinP_no {s : Pl} {L : List It} {n : ByteArray} (h : pinE s L n ≠ 0) : pinP s L n = (s, L) := by
  unfold pinE at h
  unfold pinP
  cases hl : look L n with
  | none => rfl
  | some x =>
    rw [hl] at h
    simp only at h ⊢
    by_cases hi : x.is = true
    · rw [if_pos hi] at h
      exact absurd rfl h
    · rw [if_neg hi] at h ⊢
      by_cases hr : roomZ s L < needZ x.W.length
      · rw [if_pos hr]
      · rw [if_neg hr] at h
        exact absurd rfl h

end Go.Proofs.Ytfggkkhehaafcaa

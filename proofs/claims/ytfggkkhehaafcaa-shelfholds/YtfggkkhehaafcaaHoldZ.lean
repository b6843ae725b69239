/- Texts put together: MineK, OpenOps, RegHo, YieldK, HoldK, YieldM, HoldM, HoldN, HoldE. -/
import Derived.Test.YtfggkkhehaafcaaRows
import Derived.Test.YtfggkkhehaafcaaPages
import Derived.Test.YtfggkkhehaafcaaView
import Derived.Test.YtfggkkhehaafcaaOwn
import Derived.Test.YtfggkkhehaafcaaReadsP
import Derived.Test.YtfggkkhehaafcaaReadsQ
import Derived.Test.YtfggkkhehaafcaaLeast
import Derived.Test.YtfggkkhehaafcaaLays
import Derived.Test.YtfggkkhehaafcaaNews
import Derived.Test.YtfggkkhehaafcaaGoods
import Derived.Test.YtfggkkhehaafcaaPlain
import Derived.Test.YtfggkkhehaafcaaLies
import Derived.Test.YtfggkkhehaafcaaShPlain
import Derived.Test.YtfggkkhehaafcaaShActs
import Derived.Test.YtfggkkhehaafcaaShIn
import Derived.WalkKit
import Derived.ProofKit
import Derived.OpenShut
import Derived.Below
import Derived.WalkLawsBesides
import Derived.Deep.QuietTactic
import Derived.BigQuiet
import Derived.Deep.Slices
import Derived.SizedLaws
import Derived.Test.YtfggkkhehaafcaaInvIn
import Derived.Test.YtfggkkhehaafcaaPutReg
import Derived.RangeFuncNested
import Derived.RangeFuncBox
import Derived.RangeFuncBound
import Derived.RangeFuncCalls
import Derived.RangeFuncLeaves
import Derived.Shelf.Abstract
import Derived.Shelf.RegionOpen
import Derived.OwnWalkIn
import Derived.TacticsInMore
import Derived.LoopNIn
import Derived.LoopIn
import Derived.Orders
import Derived.Test.YtfggkkhehaafcaaShAt
import Derived.Test.YtfggkkhehaafcaaOldK
import Derived.Test.YtfggkkhehaafcaaCount
import Derived.Test.YtfggkkhehaafcaaFetch
import Derived.Test.YtfggkkhehaafcaaMapV
import Derived.Test.YtfggkkhehaafcaaShTurn
import Derived.Test.YtfggkkhehaafcaaWorksK
import Derived.Test.YtfggkkhehaafcaaOldM
import Derived.Maps.OwnSet
import Derived.Test.YtfggkkhehaafcaaShBring
import Derived.Test.YtfggkkhehaafcaaPlace
import Derived.Test.YtfggkkhehaafcaaRefRel
namespace Go.Proofs.Ytfggkkhehaafcaa

/- Nobody beside the shelf has pages: which are free. -/
section
open Go.ChangeShapes Go.WideShapes Go.ChangeAt Go.RowKit
set_option linter.unusedVariables false
set_option linter.unusedSimpArgs false

def sumP (L : List It) : Nat := (L.map (fun x => x.P.length)).sum
theorem sumP_append (L M : List It) : sumP (L ++ M) = sumP L + sumP M := by simp [sumP]
theorem sumP_cons (x : It) (L : List It) : sumP (x :: L) = x.P.length + sumP L := by simp [sumP]
theorem sumP_nil : sumP [] = 0 := rfl
theorem sumP_chg (f : It → It) (hf : ∀ x, (f x).P = x.P) (n : ByteArray) (L : List It) : sumP (chg f n L) = sumP L := by
  unfold sumP chg
  rw [List.map_map]
  congr 2
  funext x
  simp only [Function.comp]
  split
  · rw [hf]
  · rfl
theorem sumP_rem {L : List It} (h : Nd L) {x : It} (hx : x ∈ L) : sumP (rem L x.nm) + x.P.length = sumP L := by
  induction L with
  | nil => cases hx
  | cons y r ih =>
    obtain ⟨h1, h2⟩ := List.pairwise_cons.1 h
    by_cases e : y.nm = x.nm
    · have ey : y = x := mem_same h (by simp) hx e
      subst ey
      have er : rem (y :: r) y.nm = r := by
        unfold Ytfggkkhehaafcaa.rem
        rw [List.filter_cons_of_neg (by simp)]
        exact List.filter_eq_self.2 fun u hu => by have q : ¬ u.nm = y.nm := fun e => h1 u hu e.symm; simp [q]
      rw [er, sumP_cons]
      omega
    · have hx' : x ∈ r := by
        rcases List.mem_cons.1 hx with c | c
        · rw [c] at e
          exact absurd rfl e
        · exact c
      have er : rem (y :: r) x.nm = y :: rem r x.nm := by
        unfold Ytfggkkhehaafcaa.rem
        rw [List.filter_cons_of_pos (by simp [e])]
      rw [er, sumP_cons, sumP_cons]
      have := ih h2 hx'
      omega
theorem sumP_rel {L : List It} (h : Nd L) {x : It} (hx : x ∈ L) : sumP (rel L x.nm) + x.P.length = sumP L := by
  induction L with
  | nil => cases hx
  | cons y r ih =>
    obtain ⟨h1, h2⟩ := List.pairwise_cons.1 h
    by_cases e : y.nm = x.nm
    · have ey : y = x := mem_same h (by simp) hx e
      subst ey
      have er : rel (y :: r) y.nm = gone y :: r := by
        show chg gone y.nm (y :: r) = _
        have := chg_none gone y.nm r (fun u hu c => h1 u hu c.symm)
        unfold chg at this ⊢
        rw [List.map_cons, if_pos rfl, this]
      rw [er, sumP_cons, sumP_cons]
      show 0 + sumP r + y.P.length = _
      omega
    · have hx' : x ∈ r := by
        rcases List.mem_cons.1 hx with c | c
        · rw [c] at e
          exact absurd rfl e
        · exact c
      have er : rel (y :: r) x.nm = y :: rel r x.nm := by
        show chg gone x.nm (y :: r) = _
        unfold rel chg
        rw [List.map_cons, if_neg e]
      rw [er, sumP_cons, sumP_cons]
      have := ih h2 hx'
      omega
theorem sumP_few {L : List It} (m : Nat) (h : ∀ x ∈ L, x.P.length ≤ m) : sumP L ≤ m * L.length := by
  induction L with
  | nil => exact Nat.zero_le _
  | cons x r ih =>
    have h1 := h x (by simp)
    have h2 := ih fun y hy => h y (by simp [hy])
    rw [sumP_cons, List.length_cons, Nat.mul_succ]
    omega

/-- nobody else has pages -/
structure Mn (s : Pl) (L : List It) : Prop where
  aside : s.aside = 0
  cover : ∀ z : Nat, z < s.n → (s.pg z).ow ≠ 0 → ∃ it ∈ L, (z : Int) ∈ it.P
  sum : hand s + (sumP L : Int) = s.n

theorem Mn.put {s : Pl} {L : List It} (h : Mn s L) (n : ByteArray) (W : List Int) : Mn s (putL L n W) := by
  unfold putL
  split
  · refine ⟨h.aside, fun z hz ho => ?_, ?_⟩
    · obtain ⟨it, hi, hz'⟩ := h.cover z hz ho
      exact ⟨it, List.mem_append_left _ hi, hz'⟩
    · rw [sumP_append]
      exact h.sum
  · exact h
theorem Mn.unpin {s : Pl} {L : List It} (h : Mn s L) (n : ByteArray) : Mn s (unpL L n) := by
  unfold unpL
  split
  · refine ⟨h.aside, fun z hz ho => ?_, ?_⟩
    · obtain ⟨it, hi, hz'⟩ := h.cover z hz ho
      by_cases e : it.nm = n
      · exact ⟨less it, List.mem_map.2 ⟨it, hi, by rw [if_pos e]⟩, hz'⟩
      · exact ⟨it, List.mem_map.2 ⟨it, hi, by rw [if_neg e]⟩, hz'⟩
    · rw [sumP_chg less (fun _ => rfl)]
      exact h.sum
  · exact h
theorem Mn.release {cap : Nat} {s : Pl} {L : List It} (h : Mn s L) (hok : ShOk cap s L) {x : It} (hx : x ∈ L) : Mn (relS s x.P) (rel L x.nm) := by
  obtain ⟨a0, a1, a2, a3, a4, a5⟩ := relS_owned (hok.owned hx)
  refine ⟨by rw [a2]; exact h.aside, fun z hz ho => ?_, ?_⟩
  · rw [a1] at hz
    have hz' : (z : Int) ∉ x.P := fun c => ho (a3 z c)
    rw [a4 z hz'] at ho
    obtain ⟨it, hi, hzi⟩ := h.cover z hz ho
    have e : ¬ it.nm = x.nm := fun e => hz' (by rw [← mem_same hok.nd hi hx e]; exact hzi)
    exact ⟨it, List.mem_map.2 ⟨it, hi, by rw [if_neg e]⟩, hzi⟩
  · rw [hand_rel (hok.owned hx), a1]
    have h1 := sumP_rel hok.nd hx
    have h2 := h.sum
    omega
theorem Mn.yield {cap : Nat} {s : Pl} {L : List It} (h : Mn s L) (hok : ShOk cap s L) : Mn (yieldP s L).1 (yieldP s L).2 := by
  unfold yieldP
  cases e : L.find? loose with
  | none => exact h
  | some x =>
    obtain ⟨h1, h2, h3⟩ := find_loose e
    exact h.release hok h1
theorem Mn.yields {cap : Nat} {n : Int} : ∀ (k : Nat) (s : Pl) (L : List It), (L.filter loose).length = k → ShOk cap s L → Mn s L → Mn (yieldsAll s L n).1 (yieldsAll s L n).2 := by
  intro k
  induction k with
  | zero =>
    intro s L hk hok h
    unfold yieldsAll
    rw [hk]
    exact h
  | succ k ih =>
    intro s L hk hok h
    by_cases c : hand s < n
    · cases e : L.find? loose with
      | none =>
        unfold yieldsAll
        rw [hk]
        simp only [Ytfggkkhehaafcaa.yields]
        rw [if_pos c, e]
        exact h
      | some x =>
        obtain ⟨h1, h2, h3⟩ := find_loose e
        rw [yieldsAll_step hok.nd c e]
        exact ih _ _ (by have := (looseP_rel hok.nd h1 (loose_of h2 h3)).2; omega) (hok.release h1 h3) (h.release hok h1)
    · rw [yieldsAll_stop c]
      exact h
theorem Mn.remove {cap : Nat} {s : Pl} {L : List It} (h : Mn s L) (hok : ShOk cap s L) (n : ByteArray) (h0 : remE L n = 0) : Mn (remS s L n) (remL L n) := by
  have e2 : remL L n = rem L n := by unfold remL; rw [if_pos h0]
  unfold remE at h0
  cases hl : look L n with
  | none => rw [hl] at h0; simp at h0
  | some x =>
    rw [hl] at h0
    simp only at h0
    have c : ¬ 0 < x.pins := fun c => by rw [if_pos c] at h0; omega
    have e1 : remS s L n = relS s x.P := by unfold remS; rw [hl]; simp only; rw [if_neg c]
    obtain ⟨hx, hn⟩ := look_some hl
    have q := h.release hok hx
    rw [e1, e2]
    refine ⟨q.aside, fun z hz ho => ?_, ?_⟩
    · obtain ⟨it, hi, hz'⟩ := q.cover z hz ho
      obtain ⟨u, hu, ⟨c1, rfl⟩ | ⟨c1, rfl⟩⟩ := chg_mem _ _ hi
      · cases hz'
      · exact ⟨it, rem_mem.2 ⟨hu, by rw [← hn]; exact c1⟩, hz'⟩
    · have h1 := q.sum
      have h2 := sumP_rel hok.nd hx
      have h3 := sumP_rem hok.nd hx
      rw [hn] at h2 h3
      rw [hn] at h1
      omega
theorem Mn.pin {cap : Nat} {s : Pl} {L : List It} (h : Mn s L) (hok : ShOk cap s L) (n : ByteArray) : Mn (pinP s L n).1 (pinP s L n).2 := by
  unfold pinP
  cases hl : look L n with
  | none => exact h
  | some x =>
    obtain ⟨hx, hn⟩ := look_some hl
    simp only
    by_cases hi : x.is = true
    · rw [if_pos hi]
      refine ⟨h.aside, fun z hz ho => ?_, ?_⟩
      · obtain ⟨it, hit, hz'⟩ := h.cover z hz ho
        by_cases e : it.nm = x.nm
        · have := mem_same hok.nd hit hx e
          subst this
          exact ⟨_, List.mem_append_right _ (List.mem_singleton.2 rfl), hz'⟩
        · exact ⟨it, List.mem_append_left _ (rem_mem.2 ⟨hit, e⟩), hz'⟩
      · have h1 := sumP_rem hok.nd hx
        have h2 := h.sum
        unfold bump
        rw [sumP_append, sumP_cons, sumP_nil]
        show hand s + ((sumP (rem L x.nm) + (x.P.length + 0) : Nat) : Int) = s.n
        omega
    · rw [if_neg hi]
      by_cases hr : roomZ s L < needZ x.W.length
      · rw [if_pos hr]
        exact h
      · rw [if_neg hr]
        have h0 := pin_place hok hr
        obtain ⟨i1, i2, i3, i4⟩ := yieldsAll_ok (cap := cap) (n := needZ x.W.length) _ s L rfl hok (need_room hr)
        have hm := Mn.yields (n := needZ x.W.length) _ s L rfl hok h
        have hx' := i3 n x hl (by simp [loose, hi])
        obtain ⟨q, eq⟩ : ∃ q, yieldsAll s L (needZ x.W.length) = q := ⟨_, rfl⟩
        rw [eq] at h0 i1 i2 hm hx' ⊢
        obtain ⟨hxq, _⟩ := look_some hx'
        have hxP := (hok.off x hx (by simpa using hi)).1
        obtain ⟨p1, p2, p3, p4, p5, p6⟩ := placed i1.good (plus x.nm) x.W h0
        refine ⟨by show (placeS q.1 (plus x.nm) x.W).aside = 0; rw [p3]; exact hm.aside, fun z hz ho => ?_, ?_⟩
        · by_cases c : (z : Int) ∈ placeR q.1 (plus x.nm) x.W
          · exact ⟨_, List.mem_append_right _ (List.mem_singleton.2 rfl), c⟩
          · have e := p4 z c
            have ho' : (q.1.pg z).ow ≠ 0 := by rw [← e]; exact ho
            have hz' : z < q.1.n := by rw [← p2]; exact hz
            obtain ⟨it, hit, hzi⟩ := hm.cover z hz' ho'
            refine ⟨it, List.mem_append_left _ (rem_mem.2 ⟨hit, fun e' => ?_⟩), hzi⟩
            have := mem_same i1.nd hit hxq e'
            rw [this, hxP] at hzi
            cases hzi
        · have h1 := sumP_rem i1.nd hxq
          have h2 := hm.sum
          rw [hxP] at h1
          have h3 : hand (placeS q.1 (plus x.nm) x.W) + (placeR q.1 (plus x.nm) x.W).length = hand q.1 := by
            unfold hand
            rw [p2, p3]
            omega
          unfold bump
          rw [sumP_append, sumP_cons, sumP_nil]
          show hand (placeS q.1 (plus x.nm) x.W) + ((sumP (rem q.2 x.nm) + ((placeR q.1 (plus x.nm) x.W).length + 0) : Nat) : Int) = ((placeS q.1 (plus x.nm) x.W).n : Int)
          rw [p2]
          simp only [List.length_nil] at h1
          omega
theorem mn_new (n : Nat) : Mn (newPl n) [] := ⟨rfl, fun z hz ho => absurd rfl ho, by
  show hand (newPl n) + (0 : Int) = n
  unfold hand
  rw [show (newPl n).n = n from rfl, freeTo_new]
  show (n : Int) - 0 + 0 = n
  omega⟩

theorem cnt_zero (p : Nat → Pg) (t : ByteArray) (n : Nat) (h : ∀ z, z < n → ¬ (0 < (p z).ow ∧ (p z).tag.toList = t.toList)) : cntTo p t n = 0 := by
  induction n with
  | zero => rfl
  | succ n ih =>
    simp only [cntTo]
    rw [ih (fun z hz => h z (by omega)), if_neg (h n (by omega))]
theorem all_used (p : Nat → Pg) (n : Nat) (h : ∀ z, z < n → (p z).ow = 0) : freeTo p n = n := by
  induction n with
  | zero => rfl
  | succ n ih =>
    simp only [freeTo]
    rw [ih (fun z hz => h z (by omega)), if_pos (h n (by omega))]
end

/- Acts that are handed in. -/
section
open Go.ChangeShapes Go.WideShapes Go.ChangeAt Go.RowKit
set_option linter.unusedVariables false
set_option linter.unusedSimpArgs false

/-- a slice as it is handed in -/
structure SL where
  a : Option Addr
  n : Nat
  c : Nat
def SL.v (s : SL) : Value := .slice s.a s.n s.c

/-- an act as it is handed in -/
structure OpV where
  k : Int
  t : ByteArray
  W : SL
  zw : List Int
  n : Int

/-- what an act's parts read as -/
structure OpOk (w : World) (o : OpV) : Prop where
  rw_ : Reads .i8 w o.W.a o.W.n o.zw
  nil : o.W.a = none → o.W.c = 0
  sz : o.t.size ≤ maxLen
  wn : (Lit.int .i64 o.n).wf = true
theorem OpOk.below {w w' : World} {o : OpV} (h : OpOk w o) (hb : Below w.heap.size w w') : OpOk w' o := ⟨h.rw_.below hb, h.nil, h.sz, h.wn⟩

/-- a row of acts that is handed in -/
structure OpsAt (w : World) (a : Option Addr) (n : Nat) (O : Nat → OpV) : Prop where
  max : n ≤ 9223372036854775807
  some_ : 0 < n → ∃ x, a = some x
  cell : ∀ x, a = some x → ∀ i, i < n → w.cell? (x.add (i * 4)) = some (.int .i64 (O i).k) ∧ w.cell? ((x.add (i * 4)).add 1) = some (.string (O i).t) ∧ w.cell? ((x.add (i * 4)).add 2) = some (O i).W.v ∧ w.cell? ((x.add (i * 4)).add 3) = some (.int .i64 (O i).n)
  ok : ∀ i, i < n → OpOk w (O i)

theorem OpsAt.below {w w' : World} {a : Option Addr} {n : Nat} {O : Nat → OpV} (h : OpsAt w a n O) (hb : Below w.heap.size w w') : OpsAt w' a n O := by
  have c : ∀ p v, w.cell? p = some v → w'.cell? p = some v := fun p v hp => (hb.cell (World.block_lt_of_cell? w p hp)).trans hp
  refine ⟨h.max, h.some_, fun x hx i hi => ?_, fun i hi => (h.ok i hi).below hb⟩
  obtain ⟨d0, d1, d2, d3⟩ := h.cell x hx i hi
  exact ⟨c _ _ d0, c _ _ d1, c _ _ d2, c _ _ d3⟩

theorem ce39 : Try.prog.cellsOf 39 = 4 := by kernel_rfl
theorem ce3 : Try.prog.cellsOf 3 = 1 := by kernel_rfl
theorem ce9 : Try.prog.cellsOf 9 = 1 := by kernel_rfl
theorem ce37 : Try.prog.cellsOf 37 = 1 := by kernel_rfl

theorem choose_below {α : Type} (d : α) {n : Nat} {p : Nat → α → Prop} (h : ∀ i, i < n → ∃ a, p i a) : ∃ F : Nat → α, ∀ i, i < n → p i (F i) := by
  refine ⟨fun i => if hi : i < n then (h i hi).choose else d, fun i hi => ?_⟩
  simp only [dif_pos hi]
  exact (h i hi).choose_spec

section
variable {H : Type} {enc : TypeId × Value → H} {W : World} {fuel : Nat}

theorem open_w {c : Value} {x : DataW H × List MemPlace} (h : DataW.trod enc Try.prog W 0 (fun _ => true) true fuel 37 [c] = some x) : ∃ (s : SL) (zs : List Int), c = s.v ∧ Reads .i8 W s.a s.n zs ∧ (s.a = none → s.c = 0) := by
  rcases open_ints Try.underlying37 Try.underlying59 (by kernel_rfl) h with ⟨hcs, hd⟩ | ⟨y, l, cp, zs, hcs, _, hl, hm, hz, hd, hcell, hwz⟩
  · obtain rfl : c = .slice none 0 0 := by simpa using hcs
    exact ⟨⟨none, 0, 0⟩, [], rfl, Reads.nil _ _, fun _ => rfl⟩
  · obtain rfl : c = .slice (some y) l cp := by simpa using hcs
    have hz' : zs.length = cp := by simpa using hz
    exact ⟨⟨some y, l, cp⟩, zs.take l, rfl, Reads.of_open hl hm hz' hcell hwz, fun h => by cases h⟩

theorem open_op {c0 c1 c2 c3 : Value} {x : DataW H × List MemPlace} (h : DataW.trod enc Try.prog W 0 (fun _ => true) true fuel 39 [c0, c1, c2, c3] = some x) :
    ∃ o : OpV, c0 = .int .i64 o.k ∧ c1 = .string o.t ∧ c2 = o.W.v ∧ c3 = .int .i64 o.n ∧ OpOk W o := by
  obtain ⟨xs, n, -, ex, -, hlen, hf⟩ := DataW.trod_struct Try.underlying39 h
  have hl : xs.length = 4 := hlen.trans (by rfl)
  match xs, hl with
  | [x0, x1, x2, x3], _ =>
  have g0 : DataW.trod enc Try.prog W 0 (fun _ => true) true n 3 [c0] = some x0 := by rw [show [c0] = ([c0, c1, c2, c3].drop 0).take (Try.prog.cellsOf 3) by rw [ce3]; rfl]; exact hf 0 _ rfl
  have g1 : DataW.trod enc Try.prog W 0 (fun _ => true) true n 9 [c1] = some x1 := by rw [show [c1] = ([c0, c1, c2, c3].drop 1).take (Try.prog.cellsOf 9) by rw [ce9]; rfl]; exact hf 1 _ rfl
  have g2 : DataW.trod enc Try.prog W 0 (fun _ => true) true n 37 [c2] = some x2 := by rw [show [c2] = ([c0, c1, c2, c3].drop 2).take (Try.prog.cellsOf 37) by rw [ce37]; rfl]; exact hf 2 _ rfl
  have g3 : DataW.trod enc Try.prog W 0 (fun _ => true) true n 3 [c3] = some x3 := by rw [show [c3] = ([c0, c1, c2, c3].drop 3).take (Try.prog.cellsOf 3) by rw [ce3]; rfl]; exact hf 3 _ rfl
  obtain ⟨z0, e0, -, -⟩ := DataW.trod_int Try.underlying3 g0
  obtain ⟨z1, e1, q1, ws1⟩ := DataW.trod_string Try.underlying9 g1
  obtain ⟨s2, y2, e2, r2, w2⟩ := open_w g2
  obtain ⟨z3, e3, -, wf3⟩ := DataW.trod_int Try.underlying3 g3
  exact ⟨⟨z0, z1, s2, y2, z3⟩, by simpa using e0, by simpa using e1, e2, by simpa using e3, ⟨r2, w2, by first | exact ws1 | exact q1 | simpa using ws1, by first | exact wf3 | simpa using wf3⟩⟩

theorem open_ops {a : Option Addr} {l c : Nat} {dd : DataW H} {p : List MemPlace} (h : DataW.Trod enc Try.prog W 0 (fun _ => true) true 22 (.slice a l c) dd p) :
    ∃ O : Nat → OpV, OpsAt W a l O ∧ (a = none → c = 0) ∧ l ≤ c := by
  obtain ⟨fuel, hf⟩ := h
  have hf' : DataW.trod enc Try.prog W 0 (fun _ => true) true fuel 22 [.slice a l c] = some (dd, p) := by simpa [Value.cells] using hf
  rcases Go.Deep.open_slice Try.underlying22 hf' with ⟨hcs, hd⟩ | ⟨a', len, cap, m, n, D, Pl, hcs, _, hl, hm, hmm, hxx, hx⟩
  · simp only [List.cons.injEq, Value.slice.injEq, and_true] at hcs
    obtain ⟨rfl, rfl, rfl⟩ := hcs
    exact ⟨fun _ => ⟨0, ⟨#[]⟩, ⟨none, 0, 0⟩, [], 0⟩, ⟨Nat.zero_le _, (fun h => by cases h), (fun x hx => by cases hx), fun i hi => by cases hi⟩, fun _ => rfl, Nat.le_refl _⟩
  · simp only [List.cons.injEq, Value.slice.injEq, and_true] at hcs
    obtain ⟨rfl, rfl, rfl⟩ := hcs
    have hlm : l ≤ m := by rw [hmm]; simp; exact hl
    rw [ce39] at hx
    obtain ⟨F, hF⟩ := choose_below (⟨0, ⟨#[]⟩, ⟨none, 0, 0⟩, [], 0⟩ : OpV) (n := l) (p := fun i o => (W.cell? (a'.add (i * 4)) = some (.int .i64 o.k) ∧ W.cell? ((a'.add (i * 4)).add 1) = some (.string o.t) ∧ W.cell? ((a'.add (i * 4)).add 2) = some o.W.v ∧ W.cell? ((a'.add (i * 4)).add 3) = some (.int .i64 o.n)) ∧ OpOk W o) (fun i hi => by
      obtain ⟨cs', h1, h2⟩ := hx i (by omega)
      obtain ⟨q1, hlen, q3⟩ := World.cells?_some h1
      match cs', hlen with
      | [c0, c1, c2, c3], _ =>
        obtain ⟨o, e0, e1, e2, e3, ok⟩ := open_op h2
        subst e0 e1 e2 e3
        exact ⟨o, ⟨q3 0 (by decide), q3 1 (by decide), q3 2 (by decide), q3 3 (by decide)⟩, ok⟩)
    refine ⟨F, ⟨by unfold maxLen at hm; omega, fun _ => ⟨_, rfl⟩, fun x hx' i hi => ?_, fun i hi => (hF i hi).2⟩, (fun h => by cases h), hl⟩
    obtain rfl := Option.some.inj hx'
    exact (hF i hi).1
end

/-- the cells of an act's variable -/
def boxC (o : OpV) : Array Value := #[.int .i64 o.k, .string o.t, .slice o.W.a o.W.n o.W.c, .int .i64 o.n]
/-- an act's variable -/
def BoxO (w : World) (x : Nat) (o : OpV) : Prop := w.heap[x]? = some (.cells (boxC o) 39 (0, 0))
theorem BoxO.new (w : World) (o : OpV) : BoxO (w.alloc (.cells (boxC o) 39)) w.heap.size o := heap_alloc_new w _
theorem BoxO.lt {w : World} {x : Nat} {o : OpV} (h : BoxO w x o) : x < w.heap.size := (Array.getElem?_eq_some_iff.1 h).1
theorem BoxO.row {w : World} {x : Nat} {o : OpV} (h : BoxO w x o) : Row 39 w x 4 := ⟨_, h, rfl⟩
theorem BoxO.keep {w w' : World} {x : Nat} {o : OpV} (h : BoxO w x o) (e : w'.heap[x]? = w.heap[x]?) : BoxO w' x o := e.trans h
theorem BoxO.below {w w' : World} {x : Nat} {o : OpV} (h : BoxO w x o) (b : Below w.heap.size w w') : BoxO w' x o := (b.block x h.lt).trans h
theorem BoxO.cells {w : World} {x : Nat} {o : OpV} (h : BoxO w x o) : w.cell? ⟨x, 0, none⟩ = some (.int .i64 o.k) ∧ w.cell? ⟨x, 1, none⟩ = some (.string o.t) ∧ w.cell? ⟨x, 2, none⟩ = some (.slice o.W.a o.W.n o.W.c) ∧ w.cell? ⟨x, 3, none⟩ = some (.int .i64 o.n) := by
  refine ⟨?_, ?_, ?_, ?_⟩ <;> (unfold World.cell?; rw [h]; rfl)
end

/- The region of ShelfHolds that copies the weights and puts them. -/
section
open Go.ChangeShapes Go.WideShapes Go.ChangeAt Go.RowKit
set_option linter.unusedVariables false
set_option linter.unusedSimpArgs false

set_option linter.unusedSimpArgs false

theorem run_build37 (w : World) : (Instr.buildSlice 37 0 #[]).run Try.prog w = .ok (.slice (some ⟨w.heap.size, 0, none⟩) 0 0) (w.alloc (.cells #[] 59)) := by go_simp
theorem run_field39 (X : Addr) (f : Nat) (hf : f < 4) (w : World) : (Instr.fieldAt 39 (.pointer (some X)) f).run Try.prog w = .ok (.pointer (some (X.add f))) w := by
  rcases (show f = 0 ∨ f = 1 ∨ f = 2 ∨ f = 3 by omega) with rfl | rfl | rfl | rfl <;> go_simp
theorem run_load9 {w : World} {p : Addr} {t : ByteArray} (h : w.cell? p = some (.string t)) : (Instr.loadAt 9 (.pointer (some p))).run Try.prog w = .ok (.string t) w := by go_simp
theorem run_eql25 (x y : Int) (w : World) : (binOp .eql 25 (.int .i64 x) (.int .i64 y)).run Try.prog w = .ok (.bool (x == y)) w := by go_simp

def hoD (i : Nat) : Option Nat := match i with | 0 => some 60 | 1 => some 61 | 2 => some 62 | 3 => some 63 | 4 => some 64 | 5 => some 65 | 6 => some 66 | 7 => some 67 | 8 => some 68 | _ => none
theorem hoD_inj : ∀ i, i < 9 → ∀ j, j < 9 → hoD i = hoD j → hoD i ≠ none → i = j := by decide
theorem hoD_lt : ∀ i, i < 9 → ∀ d, hoD i = some d → d < 225 := by
  intro i hi d h
  have : ∀ i, i < 9 → (hoD i).all (fun d => decide (d < 225)) = true := by decide
  have := this i hi
  rw [h] at this
  simpa using this
def hoF (x : Nat) (X : Addr) (g : Nat) (t : ByteArray) (sa : Option Addr) (sn sc : Nat) (ca : Option Addr) (cn cc : Nat) (E : Int) (i : Nat) (q : Value) (w : World) : Prop := match i with
  | 0 => q = .pointer (some ⟨x, 0, none⟩)
  | 1 => q = .pointer (some (X.add 1))
  | 2 => q = .string t
  | 3 => q = .slice (some ⟨g, 0, none⟩) 0 0
  | 4 => q = .pointer (some (X.add 2))
  | 5 => q = .slice sa sn sc
  | 6 => q = .slice ca cn cc
  | 7 => q = .int .i64 E
  | 8 => q = .bool (E == 0)
  | _ => True
def hoR (w0 W2 : World) (P1 P2 : World → Prop) (l : Nat → Bool) (w : World) : Prop := (l 3 = false → w = w0.drew) ∧ (l 3 = true → l 6 = false → w = w0.drew.alloc (.cells #[] 59)) ∧ (l 6 = true → l 7 = false → w = W2) ∧ (l 7 = true → P1 w)

set_option maxHeartbeats 8000000 in
theorem ho_region {id : Nat} {ops : Array Oper} {Q : Exit → Act → World → Prop} {a0 : Act} {w0 : World} (x : Nat) (X : Addr) (g : Nat) (t : ByteArray) (sa : Option Addr) (sn sc : Nat) (ca : Option Addr) (cn cc : Nat) (E : Int) (W2 : World) (S P1 P2 : World → Prop) (hlow : lowB ops = true) (hsz : ops.size = 9)
    (o0 : OpIn ops 0 (some 60) (.move (.tmp 7)) none []) (o1 : OpIn ops 1 (some 61) (.fieldAddr 39 (.tmp 12) 1) none []) (o2 : OpIn ops 2 (some 62) (.load 9 (.tmp 61)) none [1]) (o3 : OpIn ops 3 (some 63) (.buildSlice 37 0 #[]) none []) (o4 : OpIn ops 4 (some 64) (.fieldAddr 39 (.tmp 12) 2) none []) (o5 : OpIn ops 5 (some 65) (.load 37 (.tmp 64)) none [4]) (o6 : OpIn ops 6 (some 66) (.call { callee := .builtin .append, args := #[.tmp 63, .tmp 65], argTypes := #[37, 37] }) none [3, 5]) (o7 : OpIn ops 7 (some 67) (.call { callee := .value (.func 23), args := #[.tmp 60, .tmp 62, .tmp 66], argTypes := #[31, 9, 37] }) none [0, 2, 6]) (o8 : OpIn ops 8 (some 68) (.binOp .eql 25 (.tmp 67) (.const (.int .i64 0)) 25) none [7])
    (ty : TypeId) (hty : ∀ o, ops[6]? = some o → o.type = ty)
    (hS0 : S w0.drew) (hS1 : S (w0.drew.alloc (.cells #[] 59))) (hS2 : S W2) (hSP : ∀ w, P1 w → S w)
    (h7 : a0.tmps.getD 7 undef = .pointer (some ⟨x, 0, none⟩)) (h12 : a0.tmps.getD 12 undef = .pointer (some X)) (hg : g = w0.heap.size)
    (ld9 : ∀ w, S w → (Instr.loadAt 9 (.pointer (some (X.add 1)))).run Try.prog w = .ok (.string t) w) (ld37 : ∀ w, S w → (Instr.loadAt 37 (.pointer (some (X.add 2)))).run Try.prog w = .ok (.slice sa sn sc) w)
    (hap : (Builtin.append_ #[37, 37] ty #[.slice (some ⟨g, 0, none⟩) 0 0, .slice sa sn sc]).run Try.prog (w0.drew.alloc (.cells #[] 59)) = .ok (.slice ca cn cc) W2)
    (kc : Calls Try.prog 23 #[.pointer (some ⟨x, 0, none⟩), .string t, .slice ca cn cc] W2 fun e w' => e = .returned (.int .i64 E) ∧ P1 w')
    (hs : 225 ≤ a0.tmps.size)
    (fin : ∀ a w, a.tmps.size = a0.tmps.size → a.defers = a0.defers → (∀ s, (∀ i, i < 9 → hoD i ≠ some s) → a.tmps.getD s undef = a0.tmps.getD s undef) → (∀ i d, i < 9 → hoD i = some d → hoF x X g t sa sn sc ca cn cc E i (a.tmps.getD d undef) w) → P1 w → Q .normal a w) :
    (Code.region id ops true).wp Try.prog Q a0 w0 := by
  have r23 : ∀ args w, (callFunc 23 args).run Try.prog w = .ok (.enter 23 args) w := enters_of Try.func23 (by kernel_rfl) rfl
  refine wp_region_inv2 (by kernel_rfl) hlow (Inv 9 hoD a0 (fun l _ w => hoR w0 W2 P1 P2 l w) (fun _ => hoF x X g t sa sn sc ca cn cc E)) (Inv.start ⟨fun _ => rfl, (fun h => by cases h), (fun h => by cases h), fun h => by cases h⟩) ?_ ?_
  · intro l i o a w ho hl hcl hdep hI
    have hi : i < 9 := by rw [← hsz]; exact (Array.getElem?_eq_some_iff.1 ho).1
    have ev : ∀ (s : Nat), a.eval (.tmp s) = a.tmps.getD s undef := fun _ => rfl
    have evf : ∀ f, a.eval (.func f) = .func (.func f) #[] #[] := fun _ => rfl
    have evc : ∀ c : Value, a.eval (.const c) = c := fun _ => rfl
    have inj : ∀ d, hoD i = some d → ∀ j d', j < 9 → hoD j = some d' → j ≠ i → d' ≠ d := fun d hd j d' hj hd' hne e => hne (hoD_inj j hj i hi (by rw [hd', hd, e]) (by rw [hd']; simp))
    have kp : ∀ s, (∀ i, i < 9 → hoD i ≠ some s) → a.tmps.getD s undef = a0.tmps.getD s undef := hI.kept
    have oth : ∀ j, j ≠ i → (l j || j == i) = l j := fun j hj => by rw [show (j == i) = false by simp [hj], Bool.or_false]
    have sam : (l i || i == i) = true := by simp
    have go : ∀ {d : Nat} {v : Value}, hoD i = some d → (i = 0 ∨ i = 1 ∨ i = 2 ∨ i = 4 ∨ i = 5 ∨ i = 8) → hoF x X g t sa sn sc ca cn cc E i v w → Inv 9 hoD a0 (fun l _ w => hoR w0 W2 P1 P2 l w) (fun _ => hoF x X g t sa sn sc ca cn cc E) (fun j => l j || j == i) (a.put (some d) v) w := by
      intro d v hD hi' hF
      refine hI.put hi hD (Nat.lt_of_lt_of_le (hoD_lt i hi d hD) hs) (inj d hD) ?_ hF (fun j u _ _ _ hf => hf)
      show hoR w0 W2 P1 P2 _ w
      unfold hoR
      dsimp only
      rw [oth 3 (by omega), oth 6 (by omega), oth 7 (by omega)]
      exact hI.world
    have hSw : l 7 = false → S w := fun hc => by
      cases e1 : l 3 with
      | false => rw [hI.world.1 e1]; exact hS0
      | true =>
        cases e2 : l 6 with
        | false => rw [hI.world.2.1 e1 e2]; exact hS1
        | true => rw [hI.world.2.2.1 e2 hc]; exact hS2
    rcases (show i = 0 ∨ i = 1 ∨ i = 2 ∨ i = 3 ∨ i = 4 ∨ i = 5 ∨ i = 6 ∨ i = 7 ∨ i = 8 by omega) with rfl | rfl | rfl | rfl | rfl | rfl | rfl | rfl | rfl
    · obtain ⟨o', e1, e2, e3, e4, e5⟩ := o0
      obtain rfl := Option.some.inj (ho.symm.trans e1)
      have dp := dep_of' e5 hdep
      exact wpOp_value (v := .pointer (some ⟨x, 0, none⟩)) (w' := w) ho e4 (by simp [execOp, e3, ev, evc, kp 7 (by decide), h7]) (by rw [e2]; exact go rfl (by decide) rfl)
    · obtain ⟨o', e1, e2, e3, e4, e5⟩ := o1
      obtain rfl := Option.some.inj (ho.symm.trans e1)
      have dp := dep_of' e5 hdep
      exact wpOp_value (v := .pointer (some (X.add 1))) (w' := w) ho e4 (by simp [execOp, e3, ev, evc, kp 12 (by decide), h12, run_field39 X 1 (by decide)]) (by rw [e2]; exact go rfl (by decide) rfl)
    · obtain ⟨o', e1, e2, e3, e4, e5⟩ := o2
      obtain rfl := Option.some.inj (ho.symm.trans e1)
      have dp := dep_of' e5 hdep
      have V1 : a.tmps.getD 61 undef = .pointer (some (X.add 1)) := hI.val 1 61 (by decide) rfl (dp 1 (by decide))
      have nl : l 7 = false := by
        cases e : l 7 with
        | false => rfl
        | true =>
          exfalso
          have y0 := hcl.dep' o7 e 2 (by decide)
          rw [hl] at y0
          cases y0
      exact wpOp_value (v := .string t) (w' := w) ho e4 (by simp [execOp, e3, ev, V1, ld9 w (hSw nl)]) (by rw [e2]; exact go rfl (by decide) rfl)
    · obtain ⟨o', e1, e2, e3, e4, e5⟩ := o3
      obtain rfl := Option.some.inj (ho.symm.trans e1)
      have dp := dep_of' e5 hdep
      have n6 : l 6 = false := by cases e : l 6 with | false => rfl | true => have := hcl.dep' o6 e 3 (by decide); rw [hl] at this; cases this
      have n7 : l 7 = false := by cases e : l 7 with | false => rfl | true => have := hcl.dep' o7 e 6 (by decide); rw [n6] at this; cases this
      obtain rfl := hI.world.1 hl
      refine wpOp_value (v := .slice (some ⟨g, 0, none⟩) 0 0) (w' := w0.drew.alloc (.cells #[] 59)) ho e4 (by simp [execOp, e3, run_build37, hg]) ?_
      rw [e2]
      refine hI.put hi rfl (Nat.lt_of_lt_of_le (by decide) hs) (inj 63 rfl) ?_ rfl (fun j u hj hlj hne hf => hf)
      show hoR w0 _ P1 P2 _ _
      unfold hoR
      dsimp only
      rw [sam, oth 6 (by decide), oth 7 (by decide)]
      exact ⟨(fun h => by cases h), fun _ _ => rfl, (fun h => by rw [n6] at h; cases h), (fun h => by rw [n7] at h; cases h)⟩
    · obtain ⟨o', e1, e2, e3, e4, e5⟩ := o4
      obtain rfl := Option.some.inj (ho.symm.trans e1)
      have dp := dep_of' e5 hdep
      exact wpOp_value (v := .pointer (some (X.add 2))) (w' := w) ho e4 (by simp [execOp, e3, ev, evc, kp 12 (by decide), h12, run_field39 X 2 (by decide)]) (by rw [e2]; exact go rfl (by decide) rfl)
    · obtain ⟨o', e1, e2, e3, e4, e5⟩ := o5
      obtain rfl := Option.some.inj (ho.symm.trans e1)
      have dp := dep_of' e5 hdep
      have V4 : a.tmps.getD 64 undef = .pointer (some (X.add 2)) := hI.val 4 64 (by decide) rfl (dp 4 (by decide))
      have nl : l 7 = false := by
        cases e : l 7 with
        | false => rfl
        | true =>
          exfalso
          have y0 := hcl.dep' o7 e 6 (by decide)
          have y1 := hcl.dep' o6 y0 5 (by decide)
          rw [hl] at y1
          cases y1
      exact wpOp_value (v := .slice sa sn sc) (w' := w) ho e4 (by simp [execOp, e3, ev, V4, ld37 w (hSw nl)]) (by rw [e2]; exact go rfl (by decide) rfl)
    · obtain ⟨o', e1, e2, e3, e4, e5⟩ := o6
      obtain rfl := Option.some.inj (ho.symm.trans e1)
      have dp := dep_of' e5 hdep
      have V3 : a.tmps.getD 63 undef = .slice (some ⟨g, 0, none⟩) 0 0 := hI.val 3 63 (by decide) rfl (dp 3 (by decide))
      have V5 : a.tmps.getD 65 undef = .slice sa sn sc := hI.val 5 65 (by decide) rfl (dp 5 (by decide))
      have n7 : l 7 = false := by cases e : l 7 with | false => rfl | true => have := hcl.dep' o7 e 6 (by decide); rw [hl] at this; cases this
      obtain rfl := hI.world.2.1 (dp 3 (by decide)) hl
      have hap' := hap
      rw [← hty _ ho] at hap'
      refine wpOp_value (v := .slice ca cn cc) (w' := W2) ho e4 (by simp only [execOp, e3, resolve, invoke, builtin, Sem.run_bind, Sem.run_pure, Result.andThen_ok, List.map_toArray, List.map_cons, List.map_nil, ev, V3, V5, hap']) ?_
      rw [e2]
      refine hI.put hi rfl (Nat.lt_of_lt_of_le (by decide) hs) (inj 66 rfl) ?_ rfl (fun j u hj hlj hne hf => hf)
      show hoR w0 _ P1 P2 _ _
      unfold hoR
      dsimp only
      rw [sam, oth 3 (by decide), oth 7 (by decide)]
      exact ⟨(fun h => by rw [dp 3 (by decide)] at h; cases h), (fun _ h => by cases h), fun _ _ => rfl, (fun h => by rw [n7] at h; cases h)⟩
    · obtain ⟨o', e1, e2, e3, e4, e5⟩ := o7
      obtain rfl := Option.some.inj (ho.symm.trans e1)
      have dp := dep_of' e5 hdep
      have V0 : a.tmps.getD 60 undef = .pointer (some ⟨x, 0, none⟩) := hI.val 0 60 (by decide) rfl (dp 0 (by decide))
      have V2 : a.tmps.getD 62 undef = .string t := hI.val 2 62 (by decide) rfl (dp 2 (by decide))
      have V6 : a.tmps.getD 66 undef = .slice ca cn cc := hI.val 6 66 (by decide) rfl (dp 6 (by decide))
      obtain rfl := hI.world.2.2.1 (dp 6 (by decide)) hl
      refine wpOp_call (f := 23) (args := #[.pointer (some ⟨x, 0, none⟩), .string t, .slice ca cn cc]) ho e4 (by simp [execOp, e3, resolve, invoke, Deferred.ofValue, r23, ev, evf, evc, V0, V2, V6]) (kc.mono ?_)
      rintro e W' ⟨rfl, hp⟩
      refine ⟨_, rfl, ?_⟩
      rw [e2]
      refine hI.put hi rfl (Nat.lt_of_lt_of_le (by decide) hs) (inj 67 rfl) ?_ rfl (fun j u hj hlj hne hf => hf)
      show hoR w0 _ P1 P2 _ _
      unfold hoR
      dsimp only
      rw [sam, oth 3 (by decide), oth 6 (by decide)]
      exact ⟨(fun h => by rw [hcl.dep' o6 (dp 6 (by decide)) 3 (by decide)] at h; cases h), (fun _ h => by rw [dp 6 (by decide)] at h; cases h), (fun _ h => by cases h), fun _ => hp⟩
    · obtain ⟨o', e1, e2, e3, e4, e5⟩ := o8
      obtain rfl := Option.some.inj (ho.symm.trans e1)
      have dp := dep_of' e5 hdep
      have V7 : a.tmps.getD 67 undef = .int .i64 E := hI.val 7 67 (by decide) rfl (dp 7 (by decide))
      exact wpOp_value (v := .bool (E == 0)) (w' := w) ho e4 (by simp [execOp, e3, ev, evc, V7, run_eql25, eqGuard]) (by rw [e2]; exact go rfl (by decide) rfl)
  · intro l a w hall hI
    have all : ∀ j, j < 9 → l j = true := fun j hj => hall j (by rw [hsz]; exact hj)
    exact fin a w hI.size hI.defers hI.kept (fun i d hi hD => hI.val i d hi hD (all i hi)) (hI.world.2.2.2 (all 7 (by decide)))
end

/- Six at most and 200 pages: who yields. -/
section
open Go.ChangeShapes Go.WideShapes Go.ChangeAt Go.RowKit
set_option linter.unusedVariables false
set_option linter.unusedSimpArgs false

def N6 : List ByteArray := [⟨#[97]⟩, ⟨#[98]⟩, ⟨#[99]⟩, ⟨#[100]⟩, ⟨#[101]⟩, ⟨#[102]⟩]
theorem N6_ok : ∀ n ∈ N6, 1 ≤ n.size ∧ n.size ≤ 16 := by decide
theorem N6_small : ∀ n ∈ N6, n.size ≤ maxLen := by decide
theorem N6_mem {i : Nat} (h : i < 6) : N6.getD i noText ∈ N6 := by
  have : i < N6.length := h
  simp [List.getD, this]
theorem N6_inj : ∀ i, i < 6 → ∀ j, j < 6 → N6.getD i noText = N6.getD j noText → i = j := by decide

/-- a pool of 200 pages and so many of at most 500 weights each -/
structure Y3 (wt : Nat → List Int) (n : Nat) (s : Pl) (L : List It) : Prop where
  mn : Mn s L
  n200 : s.n = 200
  len : L.length = n
  wl : ∀ x ∈ L, 1 ≤ x.W.length ∧ x.W.length ≤ 500
  here : ∀ i, i < n → ∃ x, look L (N6.getD i noText) = some x ∧ x.W = wt i

theorem rem_len1 {L : List It} (h : Nd L) {x : It} (hx : x ∈ L) : (rem L x.nm).length + 1 = L.length := by
  induction L with
  | nil => cases hx
  | cons y r ih =>
    obtain ⟨h1, h2⟩ := List.pairwise_cons.1 h
    by_cases e : y.nm = x.nm
    · have ey : y = x := mem_same h (by simp) hx e
      subst ey
      have er : rem (y :: r) y.nm = r := by
        unfold Ytfggkkhehaafcaa.rem
        rw [List.filter_cons_of_neg (by simp)]
        exact List.filter_eq_self.2 fun u hu => by have q : ¬ u.nm = y.nm := fun e => h1 u hu e.symm; simp [q]
      rw [er, List.length_cons]
    · have hx' : x ∈ r := by
        rcases List.mem_cons.1 hx with c | c
        · rw [c] at e
          exact absurd rfl e
        · exact c
      have er : rem (y :: r) x.nm = y :: rem r x.nm := by
        unfold Ytfggkkhehaafcaa.rem
        rw [List.filter_cons_of_pos (by simp [e])]
      rw [er, List.length_cons, List.length_cons, ih h2 hx']

theorem Y3.room {wt : Nat → List Int} {n cap : Nat} {s : Pl} {L : List It} (h : Y3 wt n s L) (hok : ShOk cap s L) (hn : n ≤ 6) : 100 ≤ hand s := by
  have h1 := sumP_few 16 (L := L) (fun x hx => by
    by_cases hi : x.is = true
    · have := (hok.on x hx hi).1.len
      have := (h.wl x hx).2
      omega
    · rw [(hok.off x hx (by simpa using hi)).1]
      exact Nat.zero_le _)
  have h2 := h.mn.sum
  rw [h.n200] at h2
  rw [h.len] at h1
  omega
theorem need_few {W : List Int} (h : W.length ≤ 500) : needZ W.length ≤ 16 := by
  rw [needZ_nat]
  omega

/-- nothing yields where there is room at hand -/
theorem Y3.pin_ {wt : Nat → List Int} {n cap : Nat} {s : Pl} {L : List It} (h : Y3 wt n s L) (hok : ShOk cap s L) (hn : n ≤ 6) {t : ByteArray} {x : It} (hx : look L t = some x) :
    pinE s L t = 0 ∧ pinP s L t = if x.is = true then (s, bump L x) else (placeS s (plus x.nm) x.W, bump L (laidIt s x)) := by
  obtain ⟨hm, hnm⟩ := look_some hx
  have hr := h.room hok hn
  have hw := need_few (h.wl x hm).2
  have hroom : ¬ roomZ s L < needZ x.W.length := by unfold roomZ; omega
  unfold pinE pinP
  rw [hx]
  simp only
  by_cases hi : x.is = true
  · rw [if_pos hi, if_pos hi, if_pos hi]
    exact ⟨rfl, rfl⟩
  · rw [if_neg hi, if_neg hi, if_neg hi, if_neg hroom, if_neg hroom, yieldsAll_stop (by omega)]
    exact ⟨rfl, rfl⟩

theorem bump_len {L : List It} (h : Nd L) {x y : It} (hx : x ∈ L) (e : y.nm = x.nm) : (bump L y).length = L.length := by
  unfold bump
  rw [List.length_append, e]
  have := rem_len1 h hx
  simp only [List.length_cons, List.length_nil]
  omega

theorem Y3.pin {wt : Nat → List Int} {n cap : Nat} {s : Pl} {L : List It} (h : Y3 wt n s L) (hok : ShOk cap s L) (hn : n ≤ 6) {i : Nat} (hi : i < n) :
    pinE s L (N6.getD i noText) = 0 ∧ Y3 wt n (pinP s L (N6.getD i noText)).1 (pinP s L (N6.getD i noText)).2 ∧ readE (pinP s L (N6.getD i noText)).1 (pinP s L (N6.getD i noText)).2 (N6.getD i noText) = 0 ∧ readV (pinP s L (N6.getD i noText)).1 (pinP s L (N6.getD i noText)).2 (N6.getD i noText) = wt i := by
  obtain ⟨x, hx, hxw⟩ := h.here i hi
  obtain ⟨hm, hnm⟩ := look_some hx
  obtain ⟨e0, e1⟩ := h.pin_ hok hn hx
  have hmn := h.mn.pin hok (N6.getD i noText)
  have hok' := hok.pin (N6.getD i noText)
  obtain ⟨T, eT⟩ : ∃ T, N6.getD i noText = T := ⟨_, rfl⟩
  rw [eT] at hx hnm e0 e1 hmn hok' ⊢
  -- either way one with the same name and weights stands at the end
  have key : ∃ x' : It, x'.nm = x.nm ∧ x'.W = x.W ∧ x'.is = true ∧ (pinP s L T).2 = bump L x' ∧ (pinP s L T).1.n = s.n := by
    by_cases hs : x.is = true
    · rw [if_pos hs] at e1
      exact ⟨x, rfl, rfl, hs, by rw [e1], by rw [e1]⟩
    · rw [if_neg hs] at e1
      have hp : placeE s (plus x.nm) x.W = 0 := by
        have hr := h.room hok hn
        have hw := need_few (h.wl x hm).2
        have := pin_place hok (x := x) (show ¬ roomZ s L < needZ x.W.length by unfold roomZ; omega)
        rw [yieldsAll_stop (by omega)] at this
        exact this
      exact ⟨laidIt s x, rfl, rfl, rfl, by rw [e1], by rw [e1]; exact (placed hok.good _ _ hp).2.1⟩
  obtain ⟨x', k1, k2, k3, k4, k5⟩ := key
  have hl : look (pinP s L T).2 T = some { x' with pins := x'.pins + 1 } := by rw [k4, look_bump, if_pos (by rw [k1]; exact hnm.symm)]
  obtain ⟨r1, r2⟩ := hok'.read hl k3
  refine ⟨e0, ⟨hmn, by rw [k5]; exact h.n200, by rw [k4, bump_len hok.nd hm k1]; exact h.len, fun y hy => ?_, fun j hj => ?_⟩, r1, by rw [r2]; show x'.W = _; rw [k2]; exact hxw⟩
  · rw [k4] at hy
    rcases bump_mem hy with ⟨hy, _⟩ | rfl
    · exact h.wl y hy
    · show 1 ≤ x'.W.length ∧ x'.W.length ≤ 500
      rw [k2]
      exact h.wl x hm
  · rw [k4, look_bump]
    by_cases c : N6.getD j noText = x'.nm
    · rw [if_pos c]
      refine ⟨_, rfl, ?_⟩
      show x'.W = _
      rw [k2, hxw]
      have : j = i := N6_inj j (by omega) i (by omega) (by rw [c, k1, hnm, eT])
      rw [this]
    · rw [if_neg c]
      exact h.here j hj

/-- .. and these are loose, in this order; the others are still to come -/
structure Y1 (wt : Nat → List Int) (n : Nat) (s : Pl) (L : List It) (ord : List ByteArray) : Prop where
  y3 : Y3 wt n s L
  new : ∀ i, n ≤ i → i < 6 → look L (N6.getD i noText) = none
  ord : (L.filter loose).map (fun x => x.nm) = ord

theorem y1_start (wt : Nat → List Int) : Y1 wt 0 (newPl 200) [] [] :=
  ⟨⟨mn_new 200, rfl, rfl, fun x hx => (by cases hx), fun i hi => by omega⟩, fun i _ _ => rfl, rfl⟩

/-- one more is put, pinned, and perhaps unpinned -/
theorem Y1.next {wt : Nat → List Int} {n cap : Nat} {s : Pl} {L : List It} {ord : List ByteArray} (h : Y1 wt n s L ord) (hok : ShOk cap s L) (hn : n < 6) (hw : 1 ≤ (wt n).length ∧ (wt n).length ≤ 500) (hwf : ∀ z ∈ wt n, (Lit.int .i8 z).wf = true) :
    putE L (N6.getD n noText) = 0 ∧ pinE s (putL L (N6.getD n noText) (wt n)) (N6.getD n noText) = 0 ∧
      Y1 wt (n + 1) (pinP s (putL L (N6.getD n noText) (wt n)) (N6.getD n noText)).1 (pinP s (putL L (N6.getD n noText) (wt n)) (N6.getD n noText)).2 ord ∧
      unpE (pinP s (putL L (N6.getD n noText) (wt n)) (N6.getD n noText)).2 (N6.getD n noText) = 0 ∧
      Y1 wt (n + 1) (pinP s (putL L (N6.getD n noText) (wt n)) (N6.getD n noText)).1 (unpL (pinP s (putL L (N6.getD n noText) (wt n)) (N6.getD n noText)).2 (N6.getD n noText)) (ord ++ [N6.getD n noText]) := by
  have hnone := h.new n (Nat.le_refl _) hn
  have hsz := N6_ok _ (N6_mem hn)
  have p0 : putE L (N6.getD n noText) = 0 := by
    unfold putE
    rw [if_neg (by omega), hnone]
  have p1 : putL L (N6.getD n noText) (wt n) = L ++ [⟨N6.getD n noText, wt n, [], false, 0⟩] := by unfold putL; rw [if_pos p0]
  have hok1 := hok.put (N6.getD n noText) (wt n) (by omega) hwf
  have hinj := fun j (hj : j < 6) (e : N6.getD j noText = N6.getD n noText) => N6_inj j hj n hn e
  have hmn1 := h.y3.mn.put (N6.getD n noText) (wt n)
  obtain ⟨T, eT⟩ : ∃ T, N6.getD n noText = T := ⟨_, rfl⟩
  rw [eT] at hnone p0 p1 hok1 hinj hmn1 ⊢
  have hnew := look_none hnone
  have y1 : Y3 wt (n + 1) s (putL L T (wt n)) := by
    refine ⟨hmn1, h.y3.n200, ?_, fun x hx => ?_, fun j hj => ?_⟩
    · rw [p1, List.length_append, h.y3.len]
      rfl
    · rw [p1] at hx
      rcases List.mem_append.1 hx with hx | hx
      · exact h.y3.wl x hx
      · rw [List.mem_singleton.1 hx]
        exact hw
    · rw [p1, look_snoc L _ _ hnew]
      by_cases c : N6.getD j noText = T
      · rw [if_pos c]
        exact ⟨_, rfl, by rw [hinj j (by omega) c]⟩
      · rw [if_neg c]
        have hjn : j < n := by
          rcases Nat.lt_or_ge j n with e | e
          · exact e
          · have : j = n := by omega
            subst this
            exact absurd eT c
        exact h.y3.here j hjn
  have hlk : look (putL L T (wt n)) T = some ⟨T, wt n, [], false, 0⟩ := by rw [p1, look_snoc L _ _ hnew, if_pos rfl]
  obtain ⟨e0, e1⟩ := y1.pin_ hok1 (by omega) hlk
  rw [if_neg (by simp)] at e1
  simp only at e1
  have y2 := (y1.pin hok1 (by omega) (i := n) (by omega)).2.1
  rw [eT] at y2
  have hrem : rem (putL L T (wt n)) T = L := by
    rw [p1]
    unfold Ytfggkkhehaafcaa.rem
    rw [List.filter_append, List.filter_eq_self.2 (fun u hu => by have q : ¬ u.nm = T := hnew u hu; simp [q]), List.filter_cons_of_neg (by simp)]
    simp
  have hnewL : ∀ (L' : List It), (∀ m, m ≠ T → look L' m = look (putL L T (wt n)) m) → ∀ j, n + 1 ≤ j → j < 6 → look L' (N6.getD j noText) = none := fun L' hL' j hj hj6 => by
    have c : N6.getD j noText ≠ T := fun c => by have := hinj j hj6 c; omega
    rw [hL' _ c, p1, look_snoc L _ _ hnew, if_neg c]
    exact h.new j (by omega) hj6
  obtain ⟨x', ex'⟩ : ∃ x', laidIt s ⟨T, wt n, [], false, 0⟩ = x' := ⟨_, rfl⟩
  have x1 : x'.nm = T := by rw [← ex']; rfl
  have x2 : x'.pins = 0 := by rw [← ex']; rfl
  have x3 : x'.is = true := by rw [← ex']; rfl
  rw [ex'] at e1
  have eb : bump (putL L T (wt n)) x' = L ++ [{ x' with pins := 1 }] := by
    unfold bump
    rw [x1, hrem, x2]
  obtain ⟨u1, u2⟩ := chg_less_back (L := putL L T (wt n)) x2 T x1
  have hq2 : (pinP s (putL L T (wt n)) T).2 = bump (putL L T (wt n)) x' := by rw [e1]
  refine ⟨p0, e0, ⟨y2, hnewL _ (fun m hm => by rw [hq2, look_bump, if_neg (by rw [x1]; exact hm)]), ?_⟩, by rw [hq2]; exact u1, ⟨?_, ?_, ?_⟩⟩
  · rw [hq2, eb, List.filter_append, List.map_append, h.ord, List.filter_cons_of_neg (by simp [loose])]
    simp
  · rw [hq2, u2, hrem]
    have hun := y2.mn.unpin T
    rw [hq2] at hun
    have hul : unpL (bump (putL L T (wt n)) x') T = L ++ [x'] := by rw [u2, hrem]
    rw [hul] at hun
    rw [hq2, eb] at y2
    refine ⟨hun, y2.n200, ?_, fun y hy => ?_, fun j hj => ?_⟩
    · have := y2.len
      rw [List.length_append] at this ⊢
      exact this
    · rcases List.mem_append.1 hy with hy | hy
      · exact y2.wl y (List.mem_append_left _ hy)
      · rw [List.mem_singleton.1 hy]
        exact y2.wl { x' with pins := 1 } (List.mem_append_right _ (List.mem_singleton.2 rfl))
    · obtain ⟨v, hv, hvw⟩ := y2.here j hj
      have hnx : ∀ y ∈ L, y.nm ≠ x'.nm := fun y hy => by rw [x1]; exact hnew y hy
      rw [look_snoc L { x' with pins := 1 } _ hnx] at hv
      rw [look_snoc L x' _ hnx]
      simp only at hv
      by_cases c : N6.getD j noText = x'.nm
      · rw [if_pos c] at hv ⊢
        refine ⟨x', rfl, ?_⟩
        rw [← hvw, ← Option.some.inj hv]
      · rw [if_neg c] at hv ⊢
        exact ⟨v, hv, hvw⟩
  · refine hnewL _ (fun m hm => ?_)
    rw [hq2, u2, hrem, look_snoc L _ _ (fun y hy => by rw [x1]; exact hnew y hy), if_neg (by rw [x1]; exact hm), p1, look_snoc L _ _ hnew, if_neg hm]
  · rw [hq2, u2, hrem, List.filter_append, List.map_append, h.ord, List.filter_cons_of_pos (loose_of x3 x2)]
    simp [x1]

/-- the first of these yields -/
theorem Y1.yield {wt : Nat → List Int} {n cap : Nat} {s : Pl} {L : List It} {t : ByteArray} {ord : List ByteArray} (h : Y1 wt n s L (t :: ord)) (hok : ShOk cap s L) :
    yieldB L = true ∧ Y1 wt n (yieldP s L).1 (yieldP s L).2 ord ∧ cntTo (yieldP s L).1.pg (plus t) (yieldP s L).1.n = 0 ∧ freeTo s.pg s.n < freeTo (yieldP s L).1.pg (yieldP s L).1.n ∧ readE (yieldP s L).1 (yieldP s L).2 t = 27 ∧ t.size ≤ 16 := by
  have ho := h.ord
  obtain ⟨x, r, hfx⟩ : ∃ x r, L.filter loose = x :: r := by
    cases e : L.filter loose with
    | nil => rw [e] at ho; cases ho
    | cons x r => exact ⟨x, r, rfl⟩
  rw [hfx] at ho
  simp only [List.map_cons, List.cons.injEq] at ho
  obtain ⟨hxt, hr⟩ := ho
  have hf : L.find? loose = some x := by
    have := List.head?_filter (p := loose) (l := L)
    rw [hfx] at this
    exact this.symm
  obtain ⟨x1, x2, x3⟩ := find_loose hf
  have e1 : yieldB L = true := by unfold yieldB; rw [hf]; rfl
  have e2 : yieldP s L = (relS s x.P, rel L x.nm) := by unfold yieldP; rw [hf]
  have hmn := h.y3.mn.release hok x1
  have hok' := hok.release x1 x3
  obtain ⟨a0, a1, a2, a3, a4, a5⟩ := relS_owned (hok.owned x1)
  have hlen := (hok.on x x1 x2).1.len
  have hwl := (h.y3.wl x x1).1
  have hlg : look (rel L x.nm) x.nm = some (gone x) := by unfold rel; rw [look_chg gone gone_nm, if_pos rfl, look_mem hok.nd x1]; rfl
  rw [e2]
  simp only
  refine ⟨e1, ⟨⟨hmn, by rw [a1]; exact h.y3.n200, by unfold rel; rw [chg_len]; exact h.y3.len, fun y hy => ?_, fun j hj => ?_⟩, fun j hj hj6 => ?_, ?_⟩, ?_, ?_, ?_, ?_⟩
  · obtain ⟨u, hu, ⟨_, rfl⟩ | ⟨_, rfl⟩⟩ := chg_mem _ _ hy
    · exact h.y3.wl u hu
    · exact h.y3.wl y hu
  · obtain ⟨v, hv, hvw⟩ := h.y3.here j hj
    unfold rel
    rw [look_chg gone gone_nm, hv]
    split
    · exact ⟨gone v, rfl, hvw⟩
    · exact ⟨v, rfl, hvw⟩
  · unfold rel
    rw [look_chg gone gone_nm, h.new j hj hj6]
    split <;> rfl
  · -- without the first one
    have hcount := (looseP_rel hok.nd x1 (loose_of x2 x3)).2
    have hsub : ∀ (M : List It), Nd M → (∀ y ∈ M, y.nm = x.nm → y = x) → ∀ (M' : List It), M.filter loose = x :: M' → (rel M x.nm).filter loose = M' := by
      intro M
      induction M with
      | nil => intro _ _ M' e; cases e
      | cons y q ih =>
        intro hnd hu M' e
        obtain ⟨n1, n2⟩ := List.pairwise_cons.1 hnd
        have er : rel (y :: q) x.nm = (if y.nm = x.nm then gone y else y) :: rel q x.nm := rfl
        rw [er]
        by_cases c : y.nm = x.nm
        · have ey := hu y (by simp) c
          subst ey
          rw [if_pos rfl, List.filter_cons_of_neg (by simp [loose, gone])]
          rw [List.filter_cons_of_pos (loose_of x2 x3)] at e
          have hq : rel q y.nm = q := chg_none gone y.nm q (fun u hu c => n1 u hu c.symm)
          rw [hq]
          exact (List.cons.inj e).2
        · rw [if_neg c]
          by_cases b : loose y = true
          · rw [List.filter_cons_of_pos b] at e
            exact absurd (by rw [(List.cons.inj e).1]) c
          · rw [List.filter_cons_of_neg b] at e ⊢
            exact ih n2 (fun u hu' => hu u (by simp [hu'])) M' e
    rw [hsub L hok.nd (fun y hy e => mem_same hok.nd hy x1 e) r hfx]
    exact hr
  · refine cnt_zero _ _ _ fun z hz hc => ?_
    obtain ⟨it, hit, hzi⟩ := hmn.cover z hz (by omega)
    have hb : it.is = true := by
      cases e : it.is with
      | true => rfl
      | false => rw [(hok'.off it hit e).1] at hzi; cases hzi
    have htag := (hok'.on it hit hb).2 _ hzi
    rw [Int.toNat_natCast] at htag
    have e := hc.2
    rw [htag, ByteArray.toList_eq, ByteArray.toList_eq] at e
    have e3 := plus_inj (ByteArray.ext (Array.toList_inj.1 e))
    rw [← hxt] at e3
    have := look_eq hok'.nd hit e3
    rw [hlg] at this
    rw [← Option.some.inj this] at hzi
    cases hzi
  · rw [a1, a5]
    omega
  · unfold readE
    rw [← hxt, hlg]
    simp [gone]
  · rw [← hxt]
    exact (hok.nm x x1).2
theorem Y1.stop {wt : Nat → List Int} {n : Nat} {s : Pl} {L : List It} (h : Y1 wt n s L []) : yieldB L = false ∧ yieldP s L = (s, L) := by
  have ho := h.ord
  have hf : L.find? loose = none := by
    have := List.head?_filter (p := loose) (l := L)
    rw [List.map_eq_nil_iff.1 ho] at this
    exact this.symm
  exact ⟨by unfold yieldB; rw [hf]; rfl, by unfold yieldP; rw [hf]⟩
end

/- What is held and what was put, name by name. -/
section
open Go.ChangeShapes Go.WideShapes Go.ChangeAt Go.RowKit
set_option linter.unusedVariables false
set_option linter.unusedSimpArgs false

/-- how often it is held; its weights -/
def hN (L : List It) (t : ByteArray) : Nat := match look L t with | some x => x.pins | none => 0
def wF (L : List It) (t : ByteArray) : Option (List Int) := (look L t).map (fun x => x.W)

theorem hN_chg (f : It → It) (hf : ∀ x, (f x).nm = x.nm) (hp : ∀ x, (f x).pins = x.pins) (n u : ByteArray) (L : List It) : hN (chg f n L) u = hN L u := by
  unfold hN
  rw [look_chg f hf]
  by_cases c : u = n
  · rw [if_pos c]
    cases look L u with
    | none => rfl
    | some x => exact hp x
  · rw [if_neg c]
theorem wF_chg (f : It → It) (hf : ∀ x, (f x).nm = x.nm) (hp : ∀ x, (f x).W = x.W) (n u : ByteArray) (L : List It) : wF (chg f n L) u = wF L u := by
  unfold wF
  rw [look_chg f hf]
  by_cases c : u = n
  · rw [if_pos c]
    cases look L u with
    | none => rfl
    | some x => exact congrArg some (hp x)
  · rw [if_neg c]
theorem yields_same {n : Int} : ∀ (k : Nat) (s : Pl) (L : List It), (∀ u, hN (yields k s L n).2 u = hN L u) ∧ (∀ u, wF (yields k s L n).2 u = wF L u) := by
  intro k
  induction k with
  | zero => intro s L; exact ⟨fun _ => rfl, fun _ => rfl⟩
  | succ k ih =>
    intro s L
    simp only [yields]
    split
    · cases e : L.find? loose with
      | none => exact ⟨fun _ => rfl, fun _ => rfl⟩
      | some x =>
        obtain ⟨h1, h2⟩ := ih (relS s x.P) (rel L x.nm)
        exact ⟨fun u => (h1 u).trans (hN_chg gone gone_nm (fun _ => rfl) _ _ _), fun u => (h2 u).trans (wF_chg gone gone_nm (fun _ => rfl) _ _ _)⟩
    · exact ⟨fun _ => rfl, fun _ => rfl⟩
theorem hN_bump (L : List It) (x : It) (u : ByteArray) : hN (bump L x) u = if u = x.nm then x.pins + 1 else hN L u := by
  unfold hN
  rw [look_bump]
  by_cases c : u = x.nm
  · rw [if_pos c, if_pos c]
  · rw [if_neg c, if_neg c]
theorem wF_bump (L : List It) (x : It) (u : ByteArray) : wF (bump L x) u = if u = x.nm then some x.W else wF L u := by
  unfold wF
  rw [look_bump]
  by_cases c : u = x.nm
  · rw [if_pos c, if_pos c]; rfl
  · rw [if_neg c, if_neg c]

theorem put_same {L : List It} {t : ByteArray} (W : List Int) (h : putE L t = 0) : (∀ u, hN (putL L t W) u = hN L u) ∧ (∀ u, wF (putL L t W) u = if u = t then some W else wF L u) ∧ wF L t = none := by
  have hl : look L t = none := by
    unfold putE at h
    split at h
    · omega
    · cases e : look L t with
      | none => rfl
      | some x => rw [e] at h; simp at h
  have hn := look_none hl
  have e : putL L t W = L ++ [⟨t, W, [], false, 0⟩] := by unfold putL; rw [if_pos h]
  refine ⟨fun u => ?_, fun u => ?_, by unfold wF; rw [hl]; rfl⟩
  · unfold hN
    rw [e, look_snoc L _ _ hn]
    simp only
    by_cases c : u = t
    · rw [if_pos c, c, hl]
    · rw [if_neg c]
  · unfold wF
    rw [e, look_snoc L _ _ hn]
    simp only
    by_cases c : u = t
    · rw [if_pos c, if_pos c]; rfl
    · rw [if_neg c, if_neg c]
theorem put_no {L : List It} {t : ByteArray} {W : List Int} (h : putE L t ≠ 0) : putL L t W = L := by unfold putL; rw [if_neg h]

theorem pin_same {s : Pl} {L : List It} {t : ByteArray} (h : pinE s L t = 0) : (∀ u, hN (pinP s L t).2 u = if u = t then hN L t + 1 else hN L u) ∧ (∀ u, wF (pinP s L t).2 u = wF L u) := by
  unfold pinE at h
  cases hl : look L t with
  | none => rw [hl] at h; simp at h
  | some x =>
    rw [hl] at h
    simp only at h
    obtain ⟨_, hn⟩ := look_some hl
    have e1 : hN L t = x.pins := by unfold hN; rw [hl]
    have e2 : wF L t = some x.W := by unfold wF; rw [hl]; rfl
    unfold pinP
    rw [hl]
    simp only
    by_cases hi : x.is = true
    · rw [if_pos hi]
      refine ⟨fun u => ?_, fun u => ?_⟩
      · rw [hN_bump, hn, e1]
      · rw [wF_bump, hn]
        by_cases c : u = t
        · rw [if_pos c, c, e2]
        · rw [if_neg c]
    · rw [if_neg hi] at h ⊢
      by_cases hr : roomZ s L < needZ x.W.length
      · rw [if_pos hr] at h
        omega
      · rw [if_neg hr]
        obtain ⟨h1, h2⟩ := yields_same (n := needZ x.W.length) (L.filter loose).length s L
        refine ⟨fun u => ?_, fun u => ?_⟩
        · rw [hN_bump]
          show (if u = x.nm then x.pins + 1 else hN (yieldsAll s L (needZ x.W.length)).2 u) = _
          rw [hn, e1, show hN (yieldsAll s L (needZ x.W.length)).2 u = hN L u from h1 u]
        · rw [wF_bump]
          show (if u = x.nm then some x.W else wF (yieldsAll s L (needZ x.W.length)).2 u) = _
          rw [hn, show wF (yieldsAll s L (needZ x.W.length)).2 u = wF L u from h2 u]
          by_cases c : u = t
          · rw [if_pos c, c, e2]
          · rw [if_neg c]
theorem unp_same (L : List It) (t : ByteArray) : (unpE L t = 0 ↔ 0 < hN L t) ∧ (∀ u, hN (unpL L t) u = if u = t then hN L t - 1 else hN L u) ∧ (∀ u, wF (unpL L t) u = wF L u) := by
  unfold unpL
  by_cases h : unpE L t = 0
  · rw [if_pos h]
    refine ⟨⟨fun _ => ?_, fun _ => h⟩, fun u => ?_, fun u => wF_chg less less_nm (fun _ => rfl) _ _ _⟩
    · unfold unpE at h
      unfold hN
      cases hl : look L t with
      | none => rw [hl] at h; simp at h
      | some x =>
        rw [hl] at h
        simp only at h ⊢
        by_cases c : x.pins = 0
        · rw [if_pos c] at h; omega
        · omega
    · unfold hN
      rw [look_chg less less_nm]
      by_cases c : u = t
      · rw [if_pos c, if_pos c, c]
        cases look L t with
        | none => rfl
        | some x => rfl
      · rw [if_neg c, if_neg c]
  · rw [if_neg h]
    have h0 : hN L t = 0 := by
      unfold unpE at h
      unfold hN
      cases hl : look L t with
      | none => rfl
      | some x =>
        rw [hl] at h
        simp only at h ⊢
        by_cases c : x.pins = 0
        · exact c
        · rw [if_neg c] at h; exact absurd rfl h
    refine ⟨⟨fun e => absurd e h, fun e => by omega⟩, fun u => ?_, fun _ => rfl⟩
    by_cases c : u = t
    · rw [if_pos c, c, h0]
    · rw [if_neg c]
theorem unp_val (L : List It) (t : ByteArray) : unpE L t = 25 ∨ unpE L t = 27 ∨ unpE L t = 0 := by
  unfold unpE
  cases look L t with
  | none => exact .inl rfl
  | some x => simp only; split <;> simp
theorem rem_same {L : List It} {t : ByteArray} (h1 : (wF L t).isSome = true) (h0 : hN L t = 0) : remE L t = 0 ∧ (∀ u, hN (remL L t) u = hN L u) ∧ (∀ u, wF (remL L t) u = if u = t then none else wF L u) := by
  unfold wF at h1
  cases hl : look L t with
  | none => rw [hl] at h1; cases h1
  | some x =>
    have hp : x.pins = 0 := by unfold hN at h0; rw [hl] at h0; exact h0
    have e : remE L t = 0 := by unfold remE; rw [hl]; simp only; rw [if_neg (by omega)]
    have e2 : remL L t = rem L t := by unfold remL; rw [if_pos e]
    refine ⟨e, fun u => ?_, fun u => ?_⟩
    · unfold hN
      rw [e2, look_rem]
      by_cases c : u = t
      · rw [if_pos c, c, hl]
        exact hp.symm
      · rw [if_neg c]
    · unfold wF
      rw [e2, look_rem]
      by_cases c : u = t
      · rw [if_pos c, if_pos c]; rfl
      · rw [if_neg c, if_neg c]
theorem wF_some {L : List It} {t : ByteArray} {W : List Int} (h : wF L t = some W) : ∃ x, look L t = some x ∧ x.W = W := by
  unfold wF at h
  cases hl : look L t with
  | none => rw [hl] at h; cases h
  | some x => rw [hl] at h; exact ⟨x, rfl, Option.some.inj h⟩
/-- what is read of one that lies there -/
theorem ShOk.tells {cap : Nat} {s : Pl} {L : List It} (h : ShOk cap s L) {t : ByteArray} {W : List Int} (hw : wF L t = some W) : ((readE s L t = 0 ∧ readV s L t = W) ∨ (readE s L t = 27 ∧ hN L t = 0)) ∧ pinsZ L t = (hN L t : Int) := by
  obtain ⟨x, hl, rfl⟩ := wF_some hw
  obtain ⟨hx, hn⟩ := look_some hl
  refine ⟨?_, by unfold pinsZ hN; rw [hl]⟩
  by_cases hi : x.is = true
  · exact .inl (h.read hl hi)
  · refine .inr ⟨by unfold readE; rw [hl]; simp only; rw [if_neg hi], ?_⟩
    unfold hN
    rw [hl]
    exact (h.off x hx (by simpa using hi)).2
theorem none_left {L : List It} (h : ∀ t, wF L t = none) (hd : Nd L) : L = [] := by
  cases L with
  | nil => rfl
  | cons x r =>
    have := h x.nm
    unfold wF at this
    rw [look_mem hd (show x ∈ x :: r by simp)] at this
    cases this
theorem pin_bound (cap : Nat) {s : Pl} {L : List It} (h : ShOk cap s L) (t : ByteArray) : hN L t ≤ cap := by
  unfold hN
  cases hl : look L t with
  | none => exact Nat.zero_le _
  | some x => exact h.pins x (look_some hl).1
end

/- Rows beside the shelf while it yields. -/
section
open Go.ChangeShapes Go.WideShapes Go.ChangeAt Go.RowKit
set_option linter.unusedVariables false
set_option linter.unusedSimpArgs false

theorem lit6 (w : World) : ReadT (w.alloc (.cells (N6.map Value.string).toArray 9)) (some ⟨w.heap.size, 0, none⟩) 6 N6 ∧ Row 9 (w.alloc (.cells (N6.map Value.string).toArray 9)) w.heap.size 6 := by
  have hn := heap_alloc_new w (.cells (N6.map Value.string).toArray 9)
  refine ⟨⟨rfl, by decide, fun _ => ⟨_, rfl⟩, fun x hx i hi => ?_⟩, ⟨_, hn, rfl⟩⟩
  obtain rfl := Option.some.inj hx
  rw [add_off]
  unfold World.cell?
  rw [hn]
  simp only [List.getElem?_toArray]
  exact texts_at N6 i hi

/-- the weights that are put at a place -/
def sizeM (z0 : List Int) (i : Nat) : Nat := (IntKind.u64.wrap (z0.getD i 0) % 500).toNat
def wtOf (z0 : List Int) (i : Nat) : List Int := (i : Int) :: List.replicate (sizeM z0 i) 0
theorem sizeM_lt (z0 : List Int) (i : Nat) : sizeM z0 i < 500 ∧ (IntKind.u64.wrap (z0.getD i 0)).tmod 500 = (sizeM z0 i : Int) := by
  obtain ⟨M, hM, (m1 : (IntKind.u64.wrap (z0.getD i 0)).tmod 500 = (M : Int)), (m2 : IntKind.u64.wrap (z0.getD i 0) % 500 = (M : Int))⟩ := restN (z0.getD i 0) 500 (by decide)
  unfold sizeM
  rw [m2]
  exact ⟨hM, m1⟩
theorem wtOf_len (z0 : List Int) (i : Nat) : (wtOf z0 i).length = sizeM z0 i + 1 := by simp [wtOf]
theorem wtOf_wf (z0 : List Int) (i : Nat) (hi : i < 6) : ∀ z ∈ wtOf z0 i, (Lit.int .i8 z).wf = true := fun z hz => by
  rcases List.mem_cons.1 hz with rfl | hz
  · exact wf_i8 (by omega) (by omega)
  · rw [List.eq_of_mem_replicate hz]
    decide
theorem wtOf_at (z0 : List Int) (i j : Nat) (hj : j ≠ 0) : (wtOf z0 i).getD j 0 = 0 := by
  unfold wtOf
  cases j with
  | zero => exact absurd rfl hj
  | succ j =>
    simp only [List.getD, List.getElem?_cons_succ, List.getElem?_replicate]
    split <;> rfl

def zeroB (q : Nat) : Obj := .cells (madeCells #[.int .i8 0] q) 59
theorem madeB (q : Nat) (hq : q ≤ 1000) (w : World) : (Instr.makeSlice 37 (.int .i64 (q : Int)) (.int .i64 (q : Int))).run Try.prog w = .ok (.slice (some ⟨w.heap.size, 0, none⟩) q q) (w.alloc (zeroB q)) :=
  run_make_row' 37 59 (.int .i8 0) 1 Try.underlying37 info59 rfl .i64 .i64 q (by omega) (by omega) w
theorem zeroB_at (w : World) (q j : Nat) (hj : j < q) : (w.alloc (zeroB q)).cell? ⟨w.heap.size, j, none⟩ = some (.int .i8 0) := by
  have e : (w.alloc (zeroB q)).heap[w.heap.size]? = some (zeroB q) := heap_alloc_new w (zeroB q)
  unfold World.cell?
  rw [e]
  simp [zeroB, madeCells, hj, Nat.mod_one]
theorem zeroB_row (w : World) (q : Nat) : Row 59 (w.alloc (zeroB q)) w.heap.size q := ⟨_, heap_alloc_new w (zeroB q), by rw [size_madeCells]⟩
theorem wt_reads (w : World) (z0 : List Int) (i q : Nat) (hi : i < 6) (hq : q = sizeM z0 i + 1) (hq' : q ≤ 1000) : Reads .i8 ((w.alloc (zeroB q)).setCell ⟨w.heap.size, 0, none⟩ (.int .i8 (i : Int))) (some ⟨w.heap.size, 0, none⟩) q (wtOf z0 i) := by
  refine Reads.of_row (by rw [wtOf_len, hq]) (by omega) (wtOf_wf z0 i hi) fun j hj => ?_
  rw [add_off]
  by_cases c : j = 0
  · subst c
    exact World.cell?_setCell_same _ _ _ (zeroB_at w q 0 (by omega))
  · rw [World.cell?_setCell_other _ _ _ _ (by simp <;> omega), zeroB_at w q j hj, wtOf_at z0 i j c]

/-- a text laid behind a row of the law's own leaves the shelf as it was -/
theorem Sf.append9 {B : Nat} {w w' : World} {x mb b g : Nat} {a oa : Option Addr} {s : Pl} {L : List It} {cap : Nat} (h : Sf B w x mb b g a s L cap) (o : OffS B (fun _ => false) (blkOf oa) w w') (ap : Ap9 w oa a) : Sf B w' x mb b g a s L cap := by
  refine h.keep (fun i t hi ht hT => o.block i hi (.inr ⟨fun hb => ?_, fun _ _ => rfl⟩)) (o.block mb h.mapLt.2.1 (.inr ⟨fun hb => ?_, fun _ _ => rfl⟩)) (fun i hi => o.block i (h.ordLt hi).2.1 (.inr ⟨fun hb => (ap i hb).1 hi, fun _ _ => rfl⟩))
  · obtain ⟨_, m, r⟩ := ap i hb
    rw [r.type] at ht
    obtain rfl := Option.some.inj ht
    cases hT
  · obtain ⟨_, m, r⟩ := ap mb hb
    have := h.mapLt.2.2
    rw [r.type] at this
    cases this

/-- the shelf, the names' row, and the row of those that are loose -/
structure YP (B : Nat) (w : World) (x mb b g : Nat) (Y : Addr) (NN : List ByteArray) (oa : Option Addr) (ol oc : Nat) (ord : List ByteArray) (a : Option Addr) (s : Pl) (L : List It) (cap : Nat) (wr : World) : Prop where
  sf : Sf B wr x mb b g a s L cap
  row : RowT B wr oa ol oc ord
  ap : Ap9 wr oa a
  apY : Ap9 wr (some Y) a
  nm : ReadT wr (some Y) NN.length NN
  apart : ∀ i, blkOf oa i → i ≠ Y.block
  bel : Below B w wr
theorem YP.below {B : Nat} {w : World} {x mb b g : Nat} {Y : Addr} {NN : List ByteArray} {oa : Option Addr} {ol oc : Nat} {ord : List ByteArray} {a : Option Addr} {s : Pl} {L : List It} {cap : Nat} {wr W : World} (h : YP B w x mb b g Y NN oa ol oc ord a s L cap wr) (hb : Below wr.heap.size wr W) : YP B w x mb b g Y NN oa ol oc ord a s L cap W :=
  ⟨h.sf.below hb, h.row.below hb, h.ap.below hb, h.apY.below hb, h.nm.below hb, h.apart, h.bel.trans (hb.mono h.sf.lt)⟩
theorem YP.step {B : Nat} {w : World} {x mb b g : Nat} {Y : Addr} {NN : List ByteArray} {oa : Option Addr} {ol oc : Nat} {ord : List ByteArray} {a a' : Option Addr} {s s' : Pl} {L L' : List It} {cap cap' : Nat} {wr W : World} (h : YP B w x mb b g Y NN oa ol oc ord a s L cap wr) (hs : Sf B W x mb b g a' s' L' cap') (o : OffS B TS (SS mb a) wr W) (ha : ∀ k, blkOf a' k → blkOf a k ∨ wr.heap.size ≤ k) : YP B w x mb b g Y NN oa ol oc ord a' s' L' cap' W := by
  obtain ⟨q1, q2⟩ := h.ap.kept h.sf o ha
  obtain ⟨q3, q4⟩ := h.apY.kept h.sf o ha
  exact ⟨hs, h.row.keep q2, q1, q3, h.nm.kept q4, h.apart, h.bel.trans (o.below h.sf.lt)⟩
theorem YP.app {B : Nat} {w : World} {x mb b g : Nat} {Y : Addr} {NN : List ByteArray} {oa : Option Addr} {ol oc : Nat} {ord : List ByteArray} {a : Option Addr} {s : Pl} {L : List It} {cap : Nat} {wr : World} (h : YP B w x mb b g Y NN oa ol oc ord a s L cap wr) (t : ByteArray) (hl : ol ≤ 1000) :
    ∃ oa' oc' W, (Builtin.append_ #[46, 46] 46 #[.slice oa ol oc, .slice (some ⟨wr.heap.size, 0, none⟩) 1 1]).run Try.prog (wr.alloc (.cells #[.string t] 9)) = .ok (.slice oa' (ol + 1) oc') W ∧ YP B w x mb b g Y NN oa' (ol + 1) oc' (ord ++ [t]) a s L cap W := by
  obtain ⟨oa', oc', W, hr, hrow, o, hb⟩ := run_append_text h.row t (by omega) h.sf.lt 46
  obtain ⟨_, mY, rY⟩ := h.apY Y.block ⟨Y, rfl, rfl⟩
  have kb : ∀ k, k < wr.heap.size → ¬ blkOf oa k → W.heap[k]? = wr.heap[k]? := fun k hk hn => o.block k hk (.inr ⟨hn, fun _ _ => rfl⟩)
  have eY : ∀ k, blkOf (some Y) k → W.heap[k]? = wr.heap[k]? := fun k hk => by
    obtain ⟨y, hy, rfl⟩ := hk
    obtain rfl := Option.some.inj hy
    exact kb _ rY.lt (fun hb => h.apart _ hb rfl)
  refine ⟨oa', oc', W, hr, ⟨h.sf.append9 o h.ap, hrow, fun k hk => ?_, fun k hk => ?_, h.nm.kept eY, fun k hk => ?_, h.bel.trans (o.below h.sf.lt)⟩⟩
  · obtain ⟨_, m, r⟩ := own_blk hrow.own hk
    refine ⟨fun ha => ?_, m, r⟩
    rcases hb k hk with e | e
    · exact (h.ap k e).1 ha
    · have := (h.sf.ordLt ha).2.1
      omega
  · obtain ⟨h1, m, r⟩ := h.apY k hk
    exact ⟨h1, m, r.of_block (eY k hk)⟩
  · rcases hb k hk with e | e
    · exact h.apart k e
    · have := rY.lt
      omega

/-- while they are put -/
structure YI1 (B : Nat) (w : World) (x mb b g : Nat) (Y : Addr) (wt : Nat → List Int) (k cap : Nat) (oa : Option Addr) (ol oc : Nat) (wr : World) : Prop where
  st : ∃ a s L ord, YP B w x mb b g Y N6 oa ol oc ord a s L cap wr ∧ Y1 wt k s L ord
/-- while they yield -/
structure YI2 (B : Nat) (w : World) (x mb b g : Nat) (Y : Addr) (wt : Nat → List Int) (k cap : Nat) (oa : Option Addr) (ol : Nat) (wr : World) : Prop where
  st : ∃ a s L ord, Sf B wr x mb b g a s L cap ∧ Y1 wt k s L ord ∧ ReadT wr oa ol ord ∧ Ap9 wr oa a ∧ Ap9 wr (some Y) a
  nm : ReadT wr (some Y) 6 N6
  bel : Below B w wr
theorem off1 (gb o : Nat) : (⟨gb, o, none⟩ : Addr).add 1 = ⟨gb, o + 1, none⟩ := by simp [Addr.add]
theorem off0 (gb o : Nat) : (⟨gb, o, none⟩ : Addr).add 0 = ⟨gb, o, none⟩ := by simp [Addr.add]
/-- one yields: what is told, and what stands behind it -/
theorem YI2.round {B : Nat} {w : World} {x mb b g : Nat} {Y : Addr} {wt : Nat → List Int} {k cap J gb o : Nat} {wr : World} (h : YI2 B w x mb b g Y wt k cap (some ⟨gb, o, none⟩) (J + 1) wr) (hc : cap ≤ 900) :
    ∃ (t : ByteArray) (N0 F0 A0 N1 F1 A1 : Int), F0 < F1 ∧ 0 ≤ F0 ∧ F1 ≤ 256 ∧ wr.cell? ⟨gb, o, none⟩ = some (.string t) ∧ t.size ≤ 16 ∧
      (Calls Try.prog 27 #[.pointer (some ⟨b, 0, none⟩)] wr fun e W => e = .returned (.tuple #[.int .i64 N0, .int .i64 F0, .int .i64 A0]) ∧ ∃ m, W = wr.drewN m) ∧
      (∀ m, Calls Try.prog 28 #[.pointer (some ⟨x, 0, none⟩)] (wr.drewN m) fun e W2 => e = .returned (.bool true) ∧ W2.cell? ⟨gb, o, none⟩ = some (.string t) ∧
        (Calls Try.prog 29 #[.pointer (some ⟨b, 0, none⟩), .string (plus t)] W2 fun e W => e = .returned (.int .i64 0) ∧ W = W2) ∧
        (Calls Try.prog 27 #[.pointer (some ⟨b, 0, none⟩)] W2 fun e W => e = .returned (.tuple #[.int .i64 N1, .int .i64 F1, .int .i64 A1]) ∧ ∃ m, W = W2.drewN m) ∧
        (∀ m, (W2.drewN m).cell? ⟨gb, o, none⟩ = some (.string t) ∧ Calls Try.prog 11 #[.pointer (some ⟨x, 0, none⟩), .string t] (W2.drewN m) fun e W3 => ∃ a' l' c', e = .returned (.tuple #[.slice a' l' c', .int .i64 27]) ∧ YI2 B w x mb b g Y wt k cap (some ⟨gb, o + 1, none⟩) J W3 ∧ (J = 0 → YI2 B w x mb b g Y wt k cap (some ⟨gb, o, none⟩) 0 W3))) := by
  obtain ⟨a, s, L, ord, sf, y1, rt, ap, apY⟩ := h.st
  have hol := rt.len
  cases ord with
  | nil => simp at hol
  | cons t rest =>
    have hol' : rest.length = J := by simpa using hol
    obtain ⟨v1, v2, v3, v4, v5, v6⟩ := y1.yield sf.ok
    have c0 := rt.cell _ rfl 0 (by omega)
    rw [off0] at c0
    have hG := sf.ok.good
    have hsz : t.size ≤ maxLen := by unfold maxLen; omega
    have hG' := sf.ok.yield.good
    have hf1 := freeTo_le (yieldP s L).1.pg (yieldP s L).1.n
    have hn1 := hG'.n1
    refine ⟨t, s.n, freeTo s.pg s.n, s.aside, (yieldP s L).1.n, freeTo (yieldP s L).1.pg (yieldP s L).1.n, (yieldP s L).1.aside, by omega, by omega, by omega, c0, v6, sizes_call sf.pool hG.n1, fun m => ?_⟩
    have kY := sf_yield (sf.drewN m) hc
    rw [v1] at kY
    refine kY.mono ?_
    rintro e W2 ⟨rfl, s2, o2⟩
    obtain ⟨q1, q2⟩ := (ap.drewN m).kept (sf.drewN m) o2 (fun _ h => .inl h)
    obtain ⟨q3, q4⟩ := (apY.drewN m).kept (sf.drewN m) o2 (fun _ h => .inl h)
    have rt2 : ReadT W2 (some ⟨gb, o, none⟩) (J + 1) (t :: rest) := (rt.drewN m).kept q2
    have nm2 := (h.nm.drewN m).kept q4
    have b2 : Below B w W2 := (below_drew h.bel ⟨m, rfl⟩ : Below B w (wr.drewN m)).trans (o2.below sf.lt)
    have c2 := rt2.cell _ rfl 0 (by omega)
    rw [off0] at c2
    refine ⟨rfl, c2, ?_, sizes_call s2.pool hn1, fun m2 => ⟨c2, ?_⟩⟩
    · have := count_call s2.pool hn1 (plus t)
      rw [v3] at this
      exact this
    · have kR := sf_read (s2.drewN m2) hc t hsz
      rw [v5] at kR
      refine kR.mono ?_
      rintro e W3 ⟨a', l', c', rfl, _, hb3⟩
      have hd := rt2.drop 1 (by omega)
      rw [off1] at hd
      have hap : Ap9 W2 (some ⟨gb, o + 1, none⟩) a := fun i hi => by
        obtain ⟨y, hy, rfl⟩ := hi
        obtain rfl := Option.some.inj hy
        exact q1 gb ⟨_, rfl, rfl⟩
      have s3 := (s2.drewN m2).below hb3
      have b3 : Below B w W3 := (below_drew b2 ⟨m2, rfl⟩ : Below B w (W2.drewN m2)).trans (hb3.mono s2.lt)
      have nm3 := (nm2.drewN m2).below hb3
      refine ⟨a', l', c', rfl, ⟨⟨a, _, _, rest, s3, v2, (hd.drewN m2).below hb3, (hap.drewN m2).below hb3, (q3.drewN m2).below hb3⟩, nm3, b3⟩, fun hJ => ?_⟩
      subst hJ
      obtain rfl : rest = [] := List.eq_nil_of_length_eq_zero hol'
      exact ⟨⟨a, _, _, [], s3, v2, ⟨rfl, by omega, fun h => by omega, fun _ _ i hi => by omega⟩, (q1.drewN m2).below hb3, (q3.drewN m2).below hb3⟩, nm3, b3⟩
/-- while they are pinned again -/
structure YI3 (B : Nat) (w : World) (x mb b g : Nat) (Y : Addr) (wt : Nat → List Int) (k cap : Nat) (wr : World) : Prop where
  st : ∃ a s L, Sf B wr x mb b g a s L cap ∧ Y3 wt k s L ∧ Ap9 wr (some Y) a
  nm : ReadT wr (some Y) 6 N6
  bel : Below B w wr

theorem reads_first {w : World} {y : Addr} {q : Nat} {z : Int} {zs : List Int} (h : Reads .i8 w (some y) q (z :: zs)) : Reads .i8 w (some y) 1 [z] := by
  have hl := h.len
  simp only [List.length_cons] at hl
  refine Reads.of_row rfl (by omega) (fun u hu => h.wf_mem u (by rw [List.mem_singleton.1 hu]; simp)) fun i hi => ?_
  have := h.cell y rfl i (by omega)
  obtain rfl : i = 0 := by omega
  simpa using this
theorem YI3.round {B : Nat} {w : World} {x mb b g : Nat} {Y : Addr} {z0 : List Int} {k cap j : Nat} {wr : World} (h : YI3 B w x mb b g Y (wtOf z0) k cap wr) (hc : cap ≤ 890) (hk : k ≤ 6) (hj : j < k) :
    ∃ t, wr.cell? (Y.add j) = some (.string t) ∧ Calls Try.prog 24 #[.pointer (some ⟨x, 0, none⟩), .string t] wr fun e W => e = .returned (.int .i64 0) ∧ W.cell? (Y.add j) = some (.string t) ∧
      Calls Try.prog 11 #[.pointer (some ⟨x, 0, none⟩), .string t] W fun e W3 => ∃ y c', e = .returned (.tuple #[.slice (some y) (sizeM z0 j + 1) c', .int .i64 0]) ∧ sizeM z0 j + 1 ≤ c' ∧ c' ≤ 9223372036854775807 ∧ Reads .i8 W3 (some y) 1 [(j : Int)] ∧ YI3 B w x mb b g Y (wtOf z0) k (cap + 1) W3 := by
  obtain ⟨a, s, L, sf, y3, apY⟩ := h.st
  have hsz := N6_small _ (N6_mem (show j < 6 by omega))
  obtain ⟨p0, p1, p2, p3⟩ := y3.pin sf.ok hk hj
  have c0 := h.nm.cell Y rfl j (by omega)
  refine ⟨_, c0, ?_⟩
  have kN := sf_pin sf (by omega) _ hsz
  rw [p0] at kN
  refine kN.mono ?_
  rintro e W ⟨rfl, ⟨a', s', ha⟩, o'⟩
  obtain ⟨q3, q4⟩ := apY.kept sf o' ha
  have nm' := h.nm.kept q4
  refine ⟨rfl, nm'.cell Y rfl j (by omega), ?_⟩
  have kR := sf_read s' (by omega) _ hsz
  rw [p2, p3] at kR
  refine kR.mono ?_
  rintro e W3 ⟨ra, rl, rc, rfl, rr, hb⟩
  have hl := rr.len
  rw [wtOf_len] at hl
  obtain ⟨y, hy⟩ := rr.reads.some_ (by omega)
  subst hy
  subst hl
  have b2 : Below B w W := h.bel.trans (o'.below sf.lt)
  refine ⟨y, rc, rfl, own_cap rr.own, ?_, reads_first rr.reads, ⟨⟨a', _, _, s'.below hb, p1, q3.below hb⟩, nm'.below hb, b2.trans (hb.mono s'.lt)⟩⟩
  rcases rr.own.2 with ⟨h1, _⟩ | ⟨g', cap', cur, h1, h2, h3, h4, h5, _⟩
  · cases h1
  · simp only [Value.slice.injEq] at h1
    unfold maxLen at h5
    omega
theorem YI3.below {B : Nat} {w : World} {x mb b g : Nat} {Y : Addr} {wt : Nat → List Int} {k cap : Nat} {wr W : World} (h : YI3 B w x mb b g Y wt k cap wr) (hb : Below wr.heap.size wr W) : YI3 B w x mb b g Y wt k cap W := by
  obtain ⟨a, s, L, sf, y3, apY⟩ := h.st
  exact ⟨⟨a, s, L, sf.below hb, y3, apY.below hb⟩, h.nm.below hb, h.bel.trans (hb.mono sf.lt)⟩
end

/- The law's own maps and names beside the shelf. -/
section
open Go.ChangeShapes Go.WideShapes Go.ChangeAt Go.RowKit
set_option linter.unusedVariables false
set_option linter.unusedSimpArgs false

/-- the law's own maps, its row of names, and the shelf -/
structure HoM (B : Nat) (w : World) (x mb b g mi mh n : Nat) (na : Option Addr) (nl nc : Nat) (Nm : List ByteArray) (fH : ByteArray → Nat) (wI : ByteArray → Option (List Int)) (a : Option Addr) (s : Pl) (L : List It) (cap kc : Nat) (wr : World) : Prop where
  sf : Sf B wr x mb b g a s L cap
  mn : Mn s L
  sn : s.n = n
  row : RowT B wr na nl nc Nm
  ap : Ap9 wr na a
  nd : Nm.Nodup
  mI : ∃ fI, MapV wr mi kc (.slice none 0 0) fI ∧ ∀ t W, wI t = some W → ∃ ia ic, fI t = .slice ia W.length ic ∧ Reads .i8 w ia W.length W
  mH : MapV wr mh kc (.int .i64 0) (fun t => .int .i64 (fH t : Int))
  ne : mi ≠ mb ∧ mh ≠ mb ∧ mi ≠ mh
  bI : B ≤ mi
  bH : B ≤ mh
  bel : Below B w wr

theorem HoM.below {B : Nat} {w : World} {x mb b g mi mh n : Nat} {na : Option Addr} {nl nc : Nat} {Nm : List ByteArray} {fH : ByteArray → Nat} {wI : ByteArray → Option (List Int)} {a : Option Addr} {s : Pl} {L : List It} {cap kc : Nat} {wr : World} (h : HoM B w x mb b g mi mh n na nl nc Nm fH wI a s L cap kc wr) {W : World} (hb : Below wr.heap.size wr W) : HoM B w x mb b g mi mh n na nl nc Nm fH wI a s L cap kc W := by
  obtain ⟨fI, m1, m2⟩ := h.mI
  exact ⟨h.sf.below hb, h.mn, h.sn, h.row.below hb, h.ap.below hb, h.nd, ⟨fI, m1.kept (hb.block _ m1.lt), m2⟩, h.mH.kept (hb.block _ h.mH.lt), h.ne, h.bI, h.bH, h.bel.trans (hb.mono h.sf.lt)⟩
theorem HoM.drewN {B : Nat} {w : World} {x mb b g mi mh n : Nat} {na : Option Addr} {nl nc : Nat} {Nm : List ByteArray} {fH : ByteArray → Nat} {wI : ByteArray → Option (List Int)} {a : Option Addr} {s : Pl} {L : List It} {cap kc : Nat} {wr : World} (h : HoM B w x mb b g mi mh n na nl nc Nm fH wI a s L cap kc wr) (m : Nat) : HoM B w x mb b g mi mh n na nl nc Nm fH wI a s L cap kc (wr.drewN m) := h.below (below_drew (Below.refl _ _) ⟨m, rfl⟩)
theorem notBlk {B : Nat} {w : World} {x mb b g mi mh n : Nat} {na : Option Addr} {nl nc : Nat} {Nm : List ByteArray} {fH : ByteArray → Nat} {wI : ByteArray → Option (List Int)} {a : Option Addr} {s : Pl} {L : List It} {cap kc : Nat} {wr : World} (h : HoM B w x mb b g mi mh n na nl nc Nm fH wI a s L cap kc wr) {k m : Nat} {z : Value} {f : ByteArray → Value} (hm : MapV wr k m z f) : ¬ blkOf a k := fun hb => by
  obtain ⟨_, _, _, r⟩ := h.sf.ordLt hb
  exact hm.notRow r rfl

/-- the shelf does something -/
theorem HoM.act {B : Nat} {w : World} {x mb b g mi mh n : Nat} {na : Option Addr} {nl nc : Nat} {Nm : List ByteArray} {fH : ByteArray → Nat} {wI : ByteArray → Option (List Int)} {a : Option Addr} {s : Pl} {L : List It} {cap kc : Nat} {wr : World} (h : HoM B w x mb b g mi mh n na nl nc Nm fH wI a s L cap kc wr) {W : World} {a' : Option Addr} {s' : Pl} {L' : List It} {cap' : Nat} (hs : Sf B W x mb b g a' s' L' cap') (hm : Mn s' L') (hn : s'.n = n) (o : OffS B TS (SS mb a) wr W) (ha : ∀ k, blkOf a' k → blkOf a k ∨ wr.heap.size ≤ k) :
    HoM B w x mb b g mi mh n na nl nc Nm fH wI a' s' L' cap' kc W ∧ ∀ ob q, BoxO wr ob q → BoxO W ob q := by
  obtain ⟨q1, q2⟩ := h.ap.kept h.sf o ha
  obtain ⟨fI, m1, m2⟩ := h.mI
  have km : ∀ {k m z f}, MapV wr k m z f → k ≠ mb → W.heap[k]? = wr.heap[k]? := fun {k m z f} hk hne => o.block k hk.lt (.inr ⟨fun hS => by
    rcases hS with e | e
    · exact hne e
    · exact notBlk h hk e, fun t ht => by rw [hk.type] at ht; cases ht⟩)
  refine ⟨⟨hs, hm, hn, h.row.keep q2, q1, h.nd, ⟨fI, m1.kept (km m1 h.ne.1), m2⟩, h.mH.kept (km h.mH h.ne.2.1), h.ne, h.bI, h.bH, h.bel.trans (o.below h.sf.lt)⟩, fun ob q hq => hq.keep (o.row hq.row rfl (fun hS => ?_))⟩
  rcases hS with e | e
  · have := h.sf.mapLt.2.2
    rw [← e, hq.row.type] at this
    cases this
  · obtain ⟨_, _, m', r'⟩ := h.sf.ordLt e
    exact r'.ne hq.row (by decide) rfl

theorem Sf.turned {B : Nat} {w w' : World} {x mb b g : Nat} {a : Option Addr} {s : Pl} {L : List It} {cap m k : Nat} {z : Value} {f : ByteArray → Value} (h : Sf B w x mb b g a s L cap) (hm : MapV w k m z f) (hne : k ≠ mb) (ht : w.mapTurned w' k) : Sf B w' x mb b g a s L cap := by
  have kb : ∀ i, i < w.heap.size → i ≠ k → w'.heap[i]? = w.heap[i]? := fun i hi hn => ht.grown.block i hi (by simpa using hn)
  refine h.keep (fun i t hi hty _ => kb i hi (by rintro rfl; rw [hm.type] at hty; cases hty)) (kb mb h.mapLt.2.1 (fun e => hne e.symm)) (fun i hi => ?_)
  obtain ⟨_, h2, m', r⟩ := h.ordLt hi
  exact kb i h2 (hm.notRow r)
theorem zero37 (w : World) : (zeroValue 37).run Try.prog w = .ok (.slice none 0 0) w := by go_simp
theorem zero3' (w : World) : (zeroValue 3).run Try.prog w = .ok (.int .i64 0) w := by go_simp

theorem HoM.turn {B : Nat} {w : World} {x mb b g mi mh n : Nat} {na : Option Addr} {nl nc : Nat} {Nm : List ByteArray} {fH : ByteArray → Nat} {wI : ByteArray → Option (List Int)} {a : Option Addr} {s : Pl} {L : List It} {cap kc : Nat} {wr : World} (h : HoM B w x mb b g mi mh n na nl nc Nm fH wI a s L cap kc wr) {W : World} {k m : Nat} {z : Value} {f : ByteArray → Value} (hm : MapV wr k m z f) (hne : k ≠ mb) (hk : B ≤ k) (ht : wr.mapTurned W k) : Sf B W x mb b g a s L cap ∧ RowT B W na nl nc Nm ∧ Ap9 W na a ∧ Below B w W ∧ (∀ i, i < wr.heap.size → i ≠ k → W.heap[i]? = wr.heap[i]?) ∧ ∀ ob q, BoxO wr ob q → BoxO W ob q := by
  have kb : ∀ i, i < wr.heap.size → i ≠ k → W.heap[i]? = wr.heap[i]? := fun i hi hn => ht.grown.block i hi (by simpa using hn)
  have kr : ∀ {t i m'}, Row t wr i m' → W.heap[i]? = wr.heap[i]? := fun r => kb _ r.lt (hm.notRow r)
  refine ⟨h.sf.turned hm hne ht, h.row.keep fun i hi => ?_, fun i hi => ?_, ?_, kb, fun ob q hq => hq.keep (kr hq.row)⟩
  · obtain ⟨_, m', r⟩ := own_blk h.row.own hi
    exact kr r
  · obtain ⟨h1, m', r⟩ := h.ap i hi
    exact ⟨h1, m', r.of_block (kr r)⟩
  · exact h.bel.trans ⟨ht.grown.os, ht.grown.tape, ht.grown.output, ht.grown.size, fun i hi => kb i (by have := h.sf.lt; omega) (by omega)⟩

/-- what was put is written down -/
theorem HoM.storeI {B : Nat} {w : World} {x mb b g mi mh n : Nat} {na : Option Addr} {nl nc : Nat} {Nm : List ByteArray} {fH : ByteArray → Nat} {wI : ByteArray → Option (List Int)} {a : Option Addr} {s : Pl} {L : List It} {cap kc : Nat} {wr : World} (h : HoM B w x mb b g mi mh n na nl nc Nm fH wI a s L cap kc wr) (hc : kc < 1000000) (t : ByteArray) (ht : t.size ≤ maxLen) (ia : Option Addr) (ic : Nat) (V : List Int) (hV : Reads .i8 w ia V.length V) :
    ∃ W, (Instr.mapUpdate 52 (.map (some mi)) (.string t) (.slice ia V.length ic)).run Try.prog wr = .ok () W ∧ HoM B w x mb b g mi mh n na nl nc Nm fH (updT wI t (some V)) a s L cap (kc + 1) W ∧ ∀ ob q, BoxO wr ob q → BoxO W ob q := by
  obtain ⟨fI, m1, m2⟩ := h.mI
  obtain ⟨W, hr, hm, htu⟩ := m1.store 52 37 Try.underlying52 t ht (by unfold maxLen; omega) (.slice ia V.length ic)
  obtain ⟨q1, q2, q3, q4, q5, q6⟩ := h.turn m1 h.ne.1 h.bI htu
  refine ⟨W, hr, ⟨q1, h.mn, h.sn, q2, q3, h.nd, ⟨_, hm, fun u U hu => ?_⟩, (h.mH.mono (Nat.le_succ _)).kept (q5 mh h.mH.lt (fun e => h.ne.2.2 e.symm)), h.ne, h.bI, h.bH, q4⟩, q6⟩
  by_cases e : u = t
  · subst e
    rw [updT_same] at hu ⊢
    obtain rfl := Option.some.inj hu
    exact ⟨ia, ic, rfl, hV⟩
  · rw [updT_other _ _ _ _ e] at hu ⊢
    exact m2 u U hu
/-- how often it is held is written down -/
theorem HoM.storeH {B : Nat} {w : World} {x mb b g mi mh n : Nat} {na : Option Addr} {nl nc : Nat} {Nm : List ByteArray} {fH : ByteArray → Nat} {wI : ByteArray → Option (List Int)} {a : Option Addr} {s : Pl} {L : List It} {cap kc : Nat} {wr : World} (h : HoM B w x mb b g mi mh n na nl nc Nm fH wI a s L cap kc wr) (hc : kc < 1000000) (t : ByteArray) (ht : t.size ≤ maxLen) (v : Nat) :
    ∃ W, (Instr.mapUpdate 53 (.map (some mh)) (.string t) (.int .i64 (v : Int))).run Try.prog wr = .ok () W ∧ HoM B w x mb b g mi mh n na nl nc Nm (updT fH t v) wI a s L cap (kc + 1) W ∧ ∀ ob q, BoxO wr ob q → BoxO W ob q := by
  obtain ⟨fI, m1, m2⟩ := h.mI
  obtain ⟨W, hr, hm, htu⟩ := h.mH.store 53 3 Try.underlying53 t ht (by unfold maxLen; omega) (.int .i64 (v : Int))
  obtain ⟨q1, q2, q3, q4, q5, q6⟩ := h.turn h.mH h.ne.2.1 h.bH htu
  refine ⟨W, hr, ⟨q1, h.mn, h.sn, q2, q3, h.nd, ⟨fI, (m1.mono (Nat.le_succ _)).kept (q5 mi m1.lt h.ne.2.2), m2⟩, ?_, h.ne, h.bI, h.bH, q4⟩, q6⟩
  have e : (fun u => Value.int .i64 ((updT fH t v u : Nat) : Int)) = updT (fun u => Value.int .i64 (fH u : Int)) t (.int .i64 (v : Int)) := by
    funext u
    by_cases e : u = t
    · subst e
      rw [updT_same, updT_same]
    · rw [updT_other _ _ _ _ e, updT_other _ _ _ _ e]
  rw [e]
  exact hm
theorem HoM.lookH {B : Nat} {w : World} {x mb b g mi mh n : Nat} {na : Option Addr} {nl nc : Nat} {Nm : List ByteArray} {fH : ByteArray → Nat} {wI : ByteArray → Option (List Int)} {a : Option Addr} {s : Pl} {L : List It} {cap kc : Nat} {wr : World} (h : HoM B w x mb b g mi mh n na nl nc Nm fH wI a s L cap kc wr) (t : ByteArray) (ht : t.size ≤ maxLen) : (Instr.lookup 53 (.map (some mh)) (.string t) false).run Try.prog wr = .ok (.int .i64 (fH t : Int)) wr :=
  h.mH.look 53 3 Try.underlying53 (zero3' wr) t ht
theorem HoM.lookI {B : Nat} {w : World} {x mb b g mi mh n : Nat} {na : Option Addr} {nl nc : Nat} {Nm : List ByteArray} {fH : ByteArray → Nat} {wI : ByteArray → Option (List Int)} {a : Option Addr} {s : Pl} {L : List It} {cap kc : Nat} {wr : World} (h : HoM B w x mb b g mi mh n na nl nc Nm fH wI a s L cap kc wr) (t : ByteArray) (ht : t.size ≤ maxLen) {V : List Int} (hw : wI t = some V) (hB : w.heap.size ≤ B) : ∃ ia ic, (Instr.lookup 52 (.map (some mi)) (.string t) false).run Try.prog wr = .ok (.slice ia V.length ic) wr ∧ Reads .i8 wr ia V.length V := by
  obtain ⟨fI, m1, m2⟩ := h.mI
  obtain ⟨ia, ic, e, hr⟩ := m2 t V hw
  have := m1.look 52 37 Try.underlying52 (zero37 wr) t ht
  rw [e] at this
  exact ⟨ia, ic, this, hr.carry fun p v hp => (h.bel.cell (Nat.lt_of_lt_of_le (World.block_lt_of_cell? w p hp) hB)).trans hp⟩
/-- a name is laid behind the row -/
theorem HoM.app {B : Nat} {w : World} {x mb b g mi mh n : Nat} {na : Option Addr} {nl nc : Nat} {Nm : List ByteArray} {fH : ByteArray → Nat} {wI : ByteArray → Option (List Int)} {a : Option Addr} {s : Pl} {L : List It} {cap kc : Nat} {wr : World} (h : HoM B w x mb b g mi mh n na nl nc Nm fH wI a s L cap kc wr) (t : ByteArray) (ht : t ∉ Nm) (hl : nl ≤ 1000) :
    ∃ na' nc' W, (Builtin.append_ #[46, 46] 46 #[.slice na nl nc, .slice (some ⟨wr.heap.size, 0, none⟩) 1 1]).run Try.prog (wr.alloc (.cells #[.string t] 9)) = .ok (.slice na' (nl + 1) nc') W ∧ HoM B w x mb b g mi mh n na' (nl + 1) nc' (Nm ++ [t]) fH wI a s L cap kc W := by
  obtain ⟨fI, m1, m2⟩ := h.mI
  obtain ⟨na', nc', W, hr, hrow, o, hb⟩ := run_append_text h.row t (by omega) h.sf.lt 46
  have km : ∀ {k m z f}, MapV wr k m z f → W.heap[k]? = wr.heap[k]? := fun {k m z f} hk => o.block k hk.lt (.inr ⟨fun hS => by
    obtain ⟨_, m', r⟩ := own_blk h.row.own hS
    exact hk.notRow r rfl, fun _ _ => rfl⟩)
  refine ⟨na', nc', W, hr, ⟨h.sf.append9 o h.ap, h.mn, h.sn, hrow, fun k hk => ?_, List.nodup_append.2 ⟨h.nd, by simp, fun u hu v hv => by rw [List.mem_singleton.1 hv]; rintro rfl; exact ht hu⟩, ⟨fI, m1.kept (km m1), m2⟩, h.mH.kept (km h.mH), h.ne, h.bI, h.bH, h.bel.trans (o.below h.sf.lt)⟩⟩
  obtain ⟨_, m, r⟩ := own_blk hrow.own hk
  refine ⟨fun ha => ?_, m, r⟩
  rcases hb k hk with e | e
  · exact (h.ap k e).1 ha
  · have := (h.sf.ordLt ha).2.1
    omega
end

/- What ShelfHolds writes down and what lies there. -/
section
open Go.ChangeShapes Go.WideShapes Go.ChangeAt Go.RowKit
set_option linter.unusedVariables false
set_option linter.unusedSimpArgs false

/-- what is written down is what lies there -/
structure Full (L : List It) (Nm : List ByteArray) (fH : ByteArray → Nat) (wI : ByteArray → Option (List Int)) : Prop where
  h : ∀ t, fH t = hN L t
  i : ∀ t, wI t = wF L t
  m : ∀ t, (wF L t).isSome = true ↔ t ∈ Nm
  s : ∀ t ∈ Nm, t.size ≤ maxLen
def HI (B : Nat) (w : World) (x mb b g mi mh n cap kc : Nat) (na : Option Addr) (nl nc : Nat) (wr : World) : Prop := ∃ Nm fH wI a s L, HoM B w x mb b g mi mh n na nl nc Nm fH wI a s L cap kc wr ∧ Full L Nm fH wI

theorem HI.mono {B : Nat} {w : World} {x mb b g mi mh n cap kc : Nat} {na : Option Addr} {nl nc : Nat} {wr : World} (h : HI B w x mb b g mi mh n cap kc na nl nc wr) {cap' kc' : Nat} (h1 : cap ≤ cap') (h2 : kc ≤ kc') : HI B w x mb b g mi mh n cap' kc' na nl nc wr := by
  obtain ⟨Nm, fH, wI, a, s, L, m, f⟩ := h
  obtain ⟨fI, m1, m2⟩ := m.mI
  exact ⟨Nm, fH, wI, a, s, L, ⟨m.sf.mono h1, m.mn, m.sn, m.row, m.ap, m.nd, ⟨fI, m1.mono h2, m2⟩, m.mH.mono h2, m.ne, m.bI, m.bH, m.bel⟩, f⟩
theorem HI.below {B : Nat} {w : World} {x mb b g mi mh n cap kc : Nat} {na : Option Addr} {nl nc : Nat} {wr : World} (h : HI B w x mb b g mi mh n cap kc na nl nc wr) {W : World} (hb : Below wr.heap.size wr W) : HI B w x mb b g mi mh n cap kc na nl nc W := by
  obtain ⟨Nm, fH, wI, a, s, L, m, f⟩ := h
  exact ⟨Nm, fH, wI, a, s, L, m.below hb, f⟩
theorem HI.drewN {B : Nat} {w : World} {x mb b g mi mh n cap kc : Nat} {na : Option Addr} {nl nc : Nat} {wr : World} (h : HI B w x mb b g mi mh n cap kc na nl nc wr) (m : Nat) : HI B w x mb b g mi mh n cap kc na nl nc (wr.drewN m) := h.below (below_drew (Below.refl _ _) ⟨m, rfl⟩)
theorem HI.bel {B : Nat} {w : World} {x mb b g mi mh n cap kc : Nat} {na : Option Addr} {nl nc : Nat} {wr : World} (h : HI B w x mb b g mi mh n cap kc na nl nc wr) : Below B w wr := by
  obtain ⟨Nm, fH, wI, a, s, L, m, f⟩ := h
  exact m.bel
theorem HI.row {B : Nat} {w : World} {x mb b g mi mh n cap kc : Nat} {na : Option Addr} {nl nc : Nat} {wr : World} (h : HI B w x mb b g mi mh n cap kc na nl nc wr) : nl ≤ nc ∧ nc ≤ 9223372036854775807 ∧ (na = none ∨ ∃ gb, na = some ⟨gb, 0, none⟩) ∧ (0 < nl → ∃ gb, na = some ⟨gb, 0, none⟩) := by
  obtain ⟨Nm, fH, wI, a, s, L, m, f⟩ := h
  have hl := m.row.len
  refine ⟨m.row.capMax.1, m.row.capMax.2.1, ?_⟩
  rcases m.row.own.2 with ⟨h1, h2⟩ | ⟨g', cap, cur, h1, _⟩
  · simp only [Value.slice.injEq] at h1
    refine ⟨.inl h1.1, fun h => ?_⟩
    omega
  · simp only [Value.slice.injEq] at h1
    exact ⟨.inr ⟨g', h1.1⟩, fun _ => ⟨g', h1.1⟩⟩

theorem put_size {L : List It} {t : ByteArray} (h : putE L t = 0) : t.size ≤ 16 := by
  unfold putE at h
  split at h
  · omega
  · omega
theorem pin_not {s : Pl} {L : List It} {t : ByteArray} (h : pinE s L t ≠ 0) : pinP s L t = (s, L) := by
  unfold pinE at h
  unfold pinP
  cases hl : look L t with
  | none => rfl
  | some x =>
    rw [hl] at h
    simp only at h ⊢
    by_cases c : x.is = true
    · rw [if_pos c] at h; exact absurd rfl h
    · rw [if_neg c] at h ⊢
      by_cases c2 : roomZ s L < needZ x.W.length
      · rw [if_pos c2]
      · rw [if_neg c2] at h; exact absurd rfl h
theorem yields_n {cap : Nat} {n : Int} : ∀ (k : Nat) (s : Pl) (L : List It), (L.filter loose).length = k → ShOk cap s L → (yieldsAll s L n).1.n = s.n := by
  intro k
  induction k with
  | zero =>
    intro s L hk hok
    unfold yieldsAll
    rw [hk]
    rfl
  | succ k ih =>
    intro s L hk hok
    by_cases c : hand s < n
    · cases e : L.find? loose with
      | none =>
        unfold yieldsAll
        rw [hk]
        simp only [Ytfggkkhehaafcaa.yields]
        rw [if_pos c, e]
      | some x =>
        obtain ⟨h1, h2, h3⟩ := find_loose e
        rw [yieldsAll_step hok.nd c e]
        exact (ih _ _ (by have := (looseP_rel hok.nd h1 (loose_of h2 h3)).2; omega) (hok.release h1 h3)).trans (relS_owned (hok.owned h1)).2.1
    · rw [yieldsAll_stop c]
theorem pin_keeps {B : Nat} {w : World} {x mb b g : Nat} {a : Option Addr} {s : Pl} {L : List It} {cap : Nat} (h : Sf B w x mb b g a s L cap) (n : ByteArray) : (pinP s L n).1.n = s.n := by
  unfold pinP
  cases hl : look L n with
  | none => rfl
  | some x =>
    simp only
    by_cases c : x.is = true
    · rw [if_pos c]
    · rw [if_neg c]
      by_cases c2 : roomZ s L < needZ x.W.length
      · rw [if_pos c2]
      · rw [if_neg c2]
        obtain ⟨i1, i2, i3, i4⟩ := yieldsAll_ok (cap := cap) (n := needZ x.W.length) _ s L rfl h.ok (need_room c2)
        obtain ⟨p1, p2, p3, p4, p5, p6⟩ := placed i1.good (plus x.nm) x.W (pin_place h.ok c2)
        exact p2.trans (yields_n _ s L rfl h.ok)

theorem HI.put1 {B : Nat} {w : World} {x mb b g mi mh n cap kc : Nat} {na : Option Addr} {nl nc : Nat} {wr : World} (h : HI B w x mb b g mi mh n cap kc na nl nc wr) (hc : cap ≤ 800) (hk : kc ≤ 900000) (hl : nl ≤ 900) {ob : Nat} {o : OpV} (hob : BoxO wr ob o) (hok : OpOk w o) (h2 : o.W.n ≤ 2000) (ca : Option Addr) (cc : Nat) (hr : Reads .i8 wr ca o.W.n o.zw) (hn : ca = none → cc = 0) :
    ∃ E, Calls Try.prog 23 #[.pointer (some ⟨x, 0, none⟩), .string o.t, .slice ca o.W.n cc] wr fun e w' => e = .returned (.int .i64 E) ∧ BoxO w' ob o ∧ (E ≠ 0 → HI B w x mb b g mi mh n (cap + 1) (kc + 1) na nl nc w') ∧ (E = 0 → ∃ W4, (Instr.mapUpdate 52 (.map (some mi)) (.string o.t) (.slice o.W.a o.W.n o.W.c)).run Try.prog w' = .ok () W4 ∧ BoxO W4 ob o ∧ ∃ na' nc' W5, (Builtin.append_ #[46, 46] 46 #[.slice na nl nc, .slice (some ⟨W4.heap.size, 0, none⟩) 1 1]).run Try.prog (W4.alloc (.cells #[.string o.t] 9)) = .ok (.slice na' (nl + 1) nc') W5 ∧ HI B w x mb b g mi mh n (cap + 1) (kc + 1) na' (nl + 1) nc' W5) := by
  obtain ⟨Nm, fH, wI, a, s, L, m, f⟩ := h
  refine ⟨putE L o.t, (sf_put m.sf (by omega) o.t hok.sz ca o.W.n cc o.zw hr hn h2).mono ?_⟩
  rintro e w' ⟨rfl, s1, o1⟩
  obtain ⟨m1, kb⟩ := m.act s1 (m.mn.put o.t o.zw) m.sn o1 (fun _ h => .inl h)
  refine ⟨rfl, kb _ _ hob, fun hE => ?_, fun hE => ?_⟩
  · have e1 : putL L o.t o.zw = L := by unfold putL; rw [if_neg hE]
    rw [e1] at m1
    exact HI.mono ⟨Nm, fH, wI, a, s, L, m1, f⟩ (Nat.le_refl _) (Nat.le_succ _)
  · obtain ⟨p1, p2, p3⟩ := put_same o.zw hE
    have hlen := hok.rw_.len
    have hrd := hok.rw_
    rw [← hlen] at hrd
    obtain ⟨W4, r4, m4, kb4⟩ := m1.storeI (by omega) o.t hok.sz o.W.a o.W.c o.zw hrd
    rw [hlen] at r4
    have hnm : o.t ∉ Nm := fun hm => by have := (f.m o.t).2 hm; rw [p3] at this; cases this
    obtain ⟨na', nc', W5, r5, m5⟩ := m4.app o.t hnm (by omega)
    refine ⟨W4, r4, kb4 _ _ (kb _ _ hob), na', nc', W5, r5, ⟨_, _, _, _, _, _, m5, ⟨fun t => (f.h t).trans (p1 t).symm, fun t => ?_, fun t => ?_, fun t ht => ?_⟩⟩⟩
    · rw [p2 t]
      by_cases c : t = o.t
      · rw [if_pos c, c, updT_same]
      · rw [if_neg c, updT_other _ _ _ _ c]; exact f.i t
    · rw [p2 t]
      by_cases c : t = o.t
      · rw [if_pos c, c]; simp
      · rw [if_neg c, f.m t]; simp [c]
    · rcases List.mem_append.1 ht with c | c
      · exact f.s t c
      · rw [List.mem_singleton.1 c]; exact hok.sz

theorem HI.pin1 {B : Nat} {w : World} {x mb b g mi mh n cap kc : Nat} {na : Option Addr} {nl nc : Nat} {wr : World} (h : HI B w x mb b g mi mh n cap kc na nl nc wr) (hc : cap ≤ 800) (hk : kc ≤ 900000) {ob : Nat} {o : OpV} (hob : BoxO wr ob o) (hok : OpOk w o) :
    Calls Try.prog 17 #[.pointer (some ⟨x, 0, none⟩)] wr fun e W1 => ∃ ra rl rc, e = .returned (.slice ra rl rc) ∧ BoxO W1 ob o ∧ ∃ E, Calls Try.prog 24 #[.pointer (some ⟨x, 0, none⟩), .string o.t] W1 fun e W2 => e = .returned (.int .i64 E) ∧ BoxO W2 ob o ∧
      (E = 0 → ∃ v : Nat, v ≤ 1000 ∧ (Instr.lookup 53 (.map (some mh)) (.string o.t) false).run Try.prog W2 = .ok (.int .i64 (v : Int)) W2 ∧ ∃ W3, (Instr.mapUpdate 53 (.map (some mh)) (.string o.t) (.int .i64 ((v + 1 : Nat) : Int))).run Try.prog W2 = .ok () W3 ∧ HI B w x mb b g mi mh n (cap + 1) (kc + 1) na nl nc W3) ∧
      (E ≠ 0 → Calls Try.prog 17 #[.pointer (some ⟨x, 0, none⟩)] W2 fun e W3 => ∃ sa sl sc, e = .returned (.slice sa sl sc) ∧ Calls Try.prog 16 #[.slice ra rl rc, .slice sa sl sc] W3 fun e W4 => e = .returned (.bool true) ∧ HI B w x mb b g mi mh n (cap + 1) (kc + 1) na nl nc W4) := by
  obtain ⟨Nm, fH, wI, a, s, L, m, f⟩ := h
  refine (sf_resident m.sf (by omega)).mono ?_
  rintro e W1 ⟨⟨ra, rl, rc, rfl, row⟩, hb1⟩
  have m1 := m.below hb1
  have ob1 := hob.below hb1
  refine ⟨ra, rl, rc, rfl, ob1, pinE s L o.t, (sf_pin m1.sf (by omega) o.t hok.sz).mono ?_⟩
  rintro e W2 ⟨rfl, ⟨a', s2, ha⟩, o2⟩
  obtain ⟨m2, kb⟩ := m1.act s2 (m1.mn.pin m1.sf.ok o.t) ((pin_keeps m1.sf o.t).trans m1.sn) o2 ha
  refine ⟨rfl, kb _ _ ob1, fun hE => ?_, fun hE => ?_⟩
  · obtain ⟨p1, p2⟩ := pin_same hE
    have hb := pin_bound cap m1.sf.ok o.t
    obtain ⟨W3, r3, m3, _⟩ := m2.storeH (by omega) o.t hok.sz (fH o.t + 1)
    refine ⟨fH o.t, by rw [f.h]; omega, m2.lookH o.t hok.sz, W3, r3, ⟨_, _, _, _, _, _, m3, ⟨fun t => ?_, fun t => (f.i t).trans (p2 t).symm, fun t => by rw [p2 t]; exact f.m t, f.s⟩⟩⟩
    rw [p1 t]
    by_cases c : t = o.t
    · rw [if_pos c, c, updT_same, f.h]
    · rw [if_neg c, updT_other _ _ _ _ c]; exact f.h t
  · have e2 := pin_not hE
    rw [e2] at m2
    have apr : Ap9 W1 ra a := fun k hk => by
      obtain ⟨q1, m', r⟩ := own_blk row.own hk
      refine ⟨fun ha' => ?_, m', r⟩
      have := (m.sf.ordLt ha').2.1
      omega
    have rd2 := row.reads.kept (apr.kept m1.sf o2 ha).2
    refine (sf_resident m2.sf (by omega)).mono ?_
    rintro e W3 ⟨⟨sa, sl, sc, rfl, row3⟩, hb3⟩
    refine ⟨sa, sl, sc, rfl, (sameT_call (rd2.below hb3) row3.reads (by have h1 := rd2.len; have h2 := names_len L; have h3 := m.sf.ok.few; omega)).mono ?_⟩
    rintro e W4 ⟨rfl, k4, rfl⟩
    exact ⟨rfl, HI.mono ⟨_, _, _, _, _, _, (m2.below hb3).drewN k4, f⟩ (Nat.le_refl _) (Nat.le_succ _)⟩

theorem HI.unp1 {B : Nat} {w : World} {x mb b g mi mh n cap kc : Nat} {na : Option Addr} {nl nc : Nat} {wr : World} (h : HI B w x mb b g mi mh n cap kc na nl nc wr) (hc : cap ≤ 800) (hk : kc ≤ 900000) {ob : Nat} {o : OpV} (hob : BoxO wr ob o) (hok : OpOk w o) :
    ∃ v : Nat, v ≤ 1000 ∧ (Instr.lookup 53 (.map (some mh)) (.string o.t) false).run Try.prog wr = .ok (.int .i64 (v : Int)) wr ∧ ∃ E, (E = 0 ↔ 0 < v) ∧ Calls Try.prog 25 #[.pointer (some ⟨x, 0, none⟩), .string o.t] wr fun e W1 => e = .returned (.int .i64 E) ∧ BoxO W1 ob o ∧ (Instr.lookup 53 (.map (some mh)) (.string o.t) false).run Try.prog W1 = .ok (.int .i64 (v : Int)) W1 ∧ ∃ W2, (Instr.mapUpdate 53 (.map (some mh)) (.string o.t) (.int .i64 ((v - 1 : Nat) : Int))).run Try.prog W1 = .ok () W2 ∧ HI B w x mb b g mi mh n (cap + 1) (kc + 1) na nl nc W2 := by
  obtain ⟨Nm, fH, wI, a, s, L, m, f⟩ := h
  obtain ⟨p0, p1, p2⟩ := unp_same L o.t
  have hb := pin_bound cap m.sf.ok o.t
  refine ⟨fH o.t, by rw [f.h]; omega, m.lookH o.t hok.sz, unpE L o.t, by rw [f.h]; exact p0, (sf_unpin m.sf (by omega) o.t hok.sz).mono ?_⟩
  rintro e W1 ⟨rfl, s1, o1⟩
  obtain ⟨m1, kb⟩ := m.act s1 (m.mn.unpin o.t) m.sn o1 (fun _ h => .inl h)
  obtain ⟨W2, r2, m2, _⟩ := m1.storeH (by omega) o.t hok.sz (fH o.t - 1)
  refine ⟨rfl, kb _ _ hob, m1.lookH o.t hok.sz, W2, r2, HI.mono ⟨_, _, _, _, _, _, m2, ⟨fun t => ?_, fun t => (f.i t).trans (p2 t).symm, fun t => by rw [p2 t]; exact f.m t, f.s⟩⟩ (Nat.le_succ _) (Nat.le_refl _)⟩
  rw [p1 t]
  by_cases c : t = o.t
  · rw [if_pos c, c, updT_same, f.h]
  · rw [if_neg c, updT_other _ _ _ _ c]; exact f.h t

/-- each name in turn: what is read, how often it is held -/
theorem HI.round {B : Nat} {w : World} {x mb b g mi mh n cap kc : Nat} {na : Option Addr} {nl nc : Nat} {wr : World} (h : HI B w x mb b g mi mh n cap kc na nl nc wr) (hc : cap ≤ 800) (hB : w.heap.size ≤ B) {gb j : Nat} (hna : na = some ⟨gb, 0, none⟩) (hj : j < nl) :
    ∃ t, wr.cell? ⟨gb, j, none⟩ = some (.string t) ∧ Calls Try.prog 11 #[.pointer (some ⟨x, 0, none⟩), .string t] wr fun e W => ∃ ra rl rc E, e = .returned (.tuple #[.slice ra rl rc, .int .i64 E]) ∧ W.cell? ⟨gb, j, none⟩ = some (.string t) ∧ HI B w x mb b g mi mh n cap kc na nl nc W ∧ ∃ v : Nat, v ≤ 1000 ∧ (∀ k, (Instr.lookup 53 (.map (some mh)) (.string t) false).run Try.prog (W.drewN k) = .ok (.int .i64 (v : Int)) (W.drewN k)) ∧ (∀ k, Calls Try.prog 14 #[.pointer (some ⟨x, 0, none⟩), .string t] (W.drewN k) fun e w' => e = .returned (.int .i64 (v : Int)) ∧ w' = W.drewN k) ∧
      ((E = 27 ∧ v = 0) ∨ (E = 0 ∧ ∃ ia il ic, (∀ k, (Instr.lookup 52 (.map (some mi)) (.string t) false).run Try.prog (W.drewN k) = .ok (.slice ia il ic) (W.drewN k)) ∧ ∀ k, Calls Try.prog 13 #[.slice ra rl rc, .slice ia il ic] (W.drewN k) fun e w' => e = .returned (.bool true) ∧ ∃ m, w' = (W.drewN k).drewN m)) := by
  obtain ⟨Nm, fH, wI, a, s, L, m, f⟩ := h
  have hlen := m.row.len
  obtain ⟨t, ht⟩ : ∃ t, Nm[j]? = some t := ⟨_, List.getElem?_eq_getElem (by omega)⟩
  have htm : t ∈ Nm := List.mem_of_getElem? ht
  have hts := f.s t htm
  have hcell : ∀ {W : World}, HoM B w x mb b g mi mh n na nl nc Nm fH wI a s L cap kc W → W.cell? ⟨gb, j, none⟩ = some (.string t) := fun {W} hm => by
    have := hm.row.reads.cell ⟨gb, 0, none⟩ hna j hj
    rw [show Nm.getD j noText = t by rw [List.getD_eq_getElem?_getD, ht]; rfl] at this
    rw [show (⟨gb, j, none⟩ : Addr) = (⟨gb, 0, none⟩ : Addr).add j by simp [Addr.add]]
    exact this
  refine ⟨t, hcell m, (sf_read m.sf (by omega) t hts).mono ?_⟩
  rintro e W ⟨ra, rl, rc, rfl, row, hb⟩
  have m1 := m.below hb
  obtain ⟨V, hV⟩ : ∃ V, wF L t = some V := Option.isSome_iff_exists.1 ((f.m t).2 htm)
  obtain ⟨tl, tp⟩ := m1.sf.ok.tells hV
  have hbd := pin_bound cap m1.sf.ok t
  refine ⟨ra, rl, rc, readE s L t, rfl, hcell m1, ⟨_, _, _, _, _, _, m1, f⟩, fH t, by rw [f.h]; omega, fun k => (m1.drewN k).lookH t hts, fun k => ?_, ?_⟩
  · have := sf_pins (m1.drewN k).sf t hts
    rw [tp, ← f.h] at this
    exact this
  · rcases tl with ⟨q1, q2⟩ | ⟨q1, q2⟩
    · refine .inr ⟨q1, ?_⟩
      have hwI := (f.i t).trans hV
      obtain ⟨fI, n1, n2⟩ := m1.mI
      obtain ⟨ia, ic, eI, rd0⟩ := n2 t V hwI
      have rd : Reads .i8 W ia V.length V := rd0.carry fun p v hp => (m1.bel.cell (Nat.lt_of_lt_of_le (World.block_lt_of_cell? w p hp) hB)).trans hp
      refine ⟨ia, V.length, ic, fun k => ?_, fun k => ?_⟩
      · have l2 := (n1.kept (show (W.drewN k).heap[mi]? = W.heap[mi]? from rfl)).look 52 37 Try.underlying52 (zero37 (W.drewN k)) t hts
        rw [eI] at l2
        exact l2
      · have hr := row.reads
        rw [q2] at hr
        exact same_bytes ra rl rc V ia V.length ic (W.drewN k) (hr.drewN k) (rd.drewN k)
    · exact .inl ⟨q1, by rw [f.h]; exact q2⟩
end

/- The end of ShelfHolds: all is let go and removed. -/
section
open Go.ChangeShapes Go.WideShapes Go.ChangeAt Go.RowKit
set_option linter.unusedVariables false
set_option linter.unusedSimpArgs false

/-- the names from a place on lie there still -/
structure Rest (L : List It) (Nm : List ByteArray) (fH : ByteArray → Nat) (j : Nat) : Prop where
  h : ∀ t, fH t = hN L t
  m : ∀ t, (wF L t).isSome = true ↔ t ∈ Nm.drop j
  s : ∀ t ∈ Nm, t.size ≤ maxLen
  few : ∀ t, fH t ≤ 1000
def HJ (B : Nat) (w : World) (x mb b g mi mh n cap kc : Nat) (na : Option Addr) (nl nc j : Nat) (wr : World) : Prop := ∃ Nm fH wI a s L, HoM B w x mb b g mi mh n na nl nc Nm fH wI a s L cap kc wr ∧ Rest L Nm fH j
def HK (B : Nat) (w : World) (x mb b g mi mh n cap kc : Nat) (na : Option Addr) (nl nc j : Nat) (t : ByteArray) (p : Nat) (wr : World) : Prop := ∃ Nm fH wI a s L, HoM B w x mb b g mi mh n na nl nc Nm fH wI a s L cap kc wr ∧ Rest L Nm fH j ∧ Nm[j]? = some t ∧ fH t = p

theorem HI.toJ {B : Nat} {w : World} {x mb b g mi mh n cap kc : Nat} {na : Option Addr} {nl nc : Nat} {wr : World} (h : HI B w x mb b g mi mh n cap kc na nl nc wr) (hc : cap ≤ 800) : HJ B w x mb b g mi mh n cap kc na nl nc 0 wr := by
  obtain ⟨Nm, fH, wI, a, s, L, m, f⟩ := h
  exact ⟨Nm, fH, wI, a, s, L, m, f.h, fun t => by rw [List.drop_zero]; exact f.m t, f.s, fun t => by rw [f.h]; have := pin_bound cap m.sf.ok t; omega⟩
theorem HJ.bel {B : Nat} {w : World} {x mb b g mi mh n cap kc : Nat} {na : Option Addr} {nl nc : Nat} {wr : World} {j : Nat} (h : HJ B w x mb b g mi mh n cap kc na nl nc j wr) : Below B w wr := by
  obtain ⟨Nm, fH, wI, a, s, L, m, f⟩ := h
  exact m.bel
theorem HJ.mono {B : Nat} {w : World} {x mb b g mi mh n cap kc : Nat} {na : Option Addr} {nl nc : Nat} {wr : World} {j kc' : Nat} (h : HJ B w x mb b g mi mh n cap kc na nl nc j wr) (hk : kc ≤ kc') : HJ B w x mb b g mi mh n cap kc' na nl nc j wr := by
  obtain ⟨Nm, fH, wI, a, s, L, m, f⟩ := h
  obtain ⟨fI, m1, m2⟩ := m.mI
  exact ⟨Nm, fH, wI, a, s, L, ⟨m.sf, m.mn, m.sn, m.row, m.ap, m.nd, ⟨fI, m1.mono hk, m2⟩, m.mH.mono hk, m.ne, m.bI, m.bH, m.bel⟩, f⟩
theorem HJ.at_ {B : Nat} {w : World} {x mb b g mi mh n cap kc : Nat} {na : Option Addr} {nl nc : Nat} {wr : World} {j : Nat} (h : HJ B w x mb b g mi mh n cap kc na nl nc j wr) (hj : j < nl) : ∃ t p, p ≤ 1000 ∧ HK B w x mb b g mi mh n cap kc na nl nc j t p wr := by
  obtain ⟨Nm, fH, wI, a, s, L, m, f⟩ := h
  have hlen := m.row.len
  obtain ⟨t, ht⟩ : ∃ t, Nm[j]? = some t := ⟨_, List.getElem?_eq_getElem (by omega)⟩
  exact ⟨t, fH t, f.few t, Nm, fH, wI, a, s, L, m, f, ht, rfl⟩
theorem HoM.nameAt {B : Nat} {w : World} {x mb b g mi mh n : Nat} {na : Option Addr} {nl nc : Nat} {Nm : List ByteArray} {fH : ByteArray → Nat} {wI : ByteArray → Option (List Int)} {a : Option Addr} {s : Pl} {L : List It} {cap kc : Nat} {wr : World} (hm : HoM B w x mb b g mi mh n na nl nc Nm fH wI a s L cap kc wr) {gb j : Nat} {t : ByteArray} (hna : na = some ⟨gb, 0, none⟩) (ht : Nm[j]? = some t) : wr.cell? ⟨gb, j, none⟩ = some (.string t) := by
  have hj : j < nl := by rw [← hm.row.len]; exact (List.getElem?_eq_some_iff.1 ht).1
  have := hm.row.reads.cell ⟨gb, 0, none⟩ hna j hj
  rw [show Nm.getD j noText = t by rw [List.getD_eq_getElem?_getD, ht]; rfl] at this
  rw [show (⟨gb, j, none⟩ : Addr) = (⟨gb, 0, none⟩ : Addr).add j by simp [Addr.add]]
  exact this
theorem HK.tells {B : Nat} {w : World} {x mb b g mi mh n cap kc : Nat} {na : Option Addr} {nl nc : Nat} {wr : World} {j p gb : Nat} {t : ByteArray} (h : HK B w x mb b g mi mh n cap kc na nl nc j t p wr) (hna : na = some ⟨gb, 0, none⟩) : wr.cell? ⟨gb, j, none⟩ = some (.string t) ∧ (Instr.lookup 53 (.map (some mh)) (.string t) false).run Try.prog wr = .ok (.int .i64 (p : Int)) wr := by
  obtain ⟨Nm, fH, wI, a, s, L, m, f, ht, hp⟩ := h
  have := m.lookH t (f.s t (List.mem_of_getElem? ht))
  rw [hp] at this
  exact ⟨m.nameAt hna ht, this⟩
theorem HK.step {B : Nat} {w : World} {x mb b g mi mh n cap kc : Nat} {na : Option Addr} {nl nc : Nat} {wr : World} {j p gb : Nat} {t : ByteArray} (h : HK B w x mb b g mi mh n cap kc na nl nc j t (p + 1) wr) (hna : na = some ⟨gb, 0, none⟩) (hc : cap ≤ 800) (hk : kc ≤ 900000) :
    ∃ W1, (Instr.mapUpdate 53 (.map (some mh)) (.string t) (.int .i64 (p : Int))).run Try.prog wr = .ok () W1 ∧ W1.cell? ⟨gb, j, none⟩ = some (.string t) ∧ Calls Try.prog 25 #[.pointer (some ⟨x, 0, none⟩), .string t] W1 fun e W2 => (∃ E, e = .returned (.int .i64 E)) ∧ HK B w x mb b g mi mh n cap (kc + 1) na nl nc j t p W2 := by
  obtain ⟨Nm, fH, wI, a, s, L, m, f, ht, hp⟩ := h
  have hts := f.s t (List.mem_of_getElem? ht)
  obtain ⟨W1, r1, m1, _⟩ := m.storeH (by omega) t hts p
  refine ⟨W1, r1, m1.nameAt hna ht, (sf_unpin m1.sf (by omega) t hts).mono ?_⟩
  rintro e W2 ⟨rfl, s2, o2⟩
  obtain ⟨m2, _⟩ := m1.act s2 (m1.mn.unpin t) m1.sn o2 (fun _ h => .inl h)
  obtain ⟨p0, p1, p2⟩ := unp_same L t
  refine ⟨⟨_, rfl⟩, _, _, _, _, _, _, m2, ⟨fun u => ?_, fun u => by rw [p2 u]; exact f.m u, f.s, fun u => ?_⟩, ht, updT_same _ _ _⟩
  · rw [p1 u]
    by_cases c : u = t
    · rw [if_pos c, c, updT_same, ← f.h, hp]; rfl
    · rw [if_neg c, updT_other _ _ _ _ c]; exact f.h u
  · by_cases c : u = t
    · rw [c, updT_same]; have := f.few t; omega
    · rw [updT_other _ _ _ _ c]; exact f.few u
theorem drop_at {α : Type} {l : List α} {j : Nat} {t : α} (h : l[j]? = some t) : l.drop j = t :: l.drop (j + 1) := by
  obtain ⟨h1, h2⟩ := List.getElem?_eq_some_iff.1 h
  rw [List.drop_eq_getElem_cons h1, h2]
theorem HK.done {B : Nat} {w : World} {x mb b g mi mh n cap kc : Nat} {na : Option Addr} {nl nc : Nat} {wr : World} {j : Nat} {t : ByteArray} (h : HK B w x mb b g mi mh n cap kc na nl nc j t 0 wr) (hc : cap ≤ 800) :
    Calls Try.prog 26 #[.pointer (some ⟨x, 0, none⟩), .string t] wr fun e W => e = .returned (.int .i64 0) ∧ HJ B w x mb b g mi mh n cap kc na nl nc (j + 1) W := by
  obtain ⟨Nm, fH, wI, a, s, L, m, f, ht, hp⟩ := h
  have hts := f.s t (List.mem_of_getElem? ht)
  have hd := drop_at ht
  have h0 : hN L t = 0 := by rw [← f.h]; exact hp
  obtain ⟨e0, e1, e2⟩ := rem_same ((f.m t).2 (by rw [hd]; simp)) h0
  have k := sf_remove m.sf (by omega) t hts
  rw [e0] at k
  refine k.mono ?_
  rintro e W ⟨rfl, s1, o1⟩
  obtain ⟨m1, _⟩ := m.act s1 (m.mn.remove m.sf.ok t e0) (by
    refine Eq.trans ?_ m.sn
    unfold remS
    cases hl : look L t with
    | none => rfl
    | some y =>
      simp only
      split
      · rfl
      · exact (relS_owned (m.sf.ok.owned (look_some hl).1)).2.1) o1 (fun _ h => .inl h)
  have hnd : (t :: Nm.drop (j + 1)).Nodup := by rw [← hd]; exact m.nd.sublist (List.drop_sublist _ _)
  refine ⟨rfl, _, _, _, _, _, _, m1, ⟨fun u => (f.h u).trans (e1 u).symm, fun u => ?_, f.s, f.few⟩⟩
  rw [e2 u]
  by_cases c : u = t
  · rw [if_pos c, c]
    exact ⟨(fun h => by cases h), fun h => absurd h (List.nodup_cons.1 hnd).1⟩
  · rw [if_neg c, f.m u, hd]
    simp [c]
theorem HJ.stop {B : Nat} {w : World} {x mb b g mi mh n cap kc : Nat} {na : Option Addr} {nl nc : Nat} {wr : World} (h : HJ B w x mb b g mi mh n cap kc na nl nc nl wr) (hc : cap ≤ 800) :
    ∃ N A : Int, Calls Try.prog 27 #[.pointer (some ⟨b, 0, none⟩)] wr fun e W => e = .returned (.tuple #[.int .i64 N, .int .i64 n, .int .i64 A]) ∧ Below B w W ∧ Calls Try.prog 17 #[.pointer (some ⟨x, 0, none⟩)] W fun e W' => (∃ a' c', e = .returned (.slice a' 0 c')) ∧ Below B w W' := by
  obtain ⟨Nm, fH, wI, a, s, L, m, f⟩ := h
  have hlen := m.row.len
  have hL : L = [] := none_left (fun t => by
    cases hw : wF L t with
    | none => rfl
    | some V =>
      have := (f.m t).1 (by rw [hw]; rfl)
      rw [← hlen, List.drop_length] at this
      cases this) m.sf.ok.nd
  subst hL
  have hfree : freeTo s.pg s.n = s.n := all_used _ _ fun z hz => by
    by_cases c : (s.pg z).ow = 0
    · exact c
    · obtain ⟨it, hi, _⟩ := m.mn.cover z hz c
      cases hi
  have k := sizes_call m.sf.pool m.sf.ok.good.n1
  rw [hfree, m.sn] at k
  refine ⟨(n : Int), s.aside, k.mono ?_⟩
  rintro e W ⟨rfl, q, rfl⟩
  have m1 := m.drewN q
  refine ⟨rfl, m1.bel, (sf_resident m1.sf (by omega)).mono ?_⟩
  rintro e W' ⟨⟨a', l', c', rfl, r⟩, hb⟩
  obtain rfl : 0 = l' := r.len
  exact ⟨⟨a', c', rfl⟩, m1.bel.trans (hb.mono m1.sf.lt)⟩

theorem hi_new {B : Nat} {w W : World} {x mb b g n : Nat} (hs : Sf B W x mb b g none (newPl n) [] 0) (hb : Below B w W) :
    HI B w x mb b g W.heap.size (W.heap.size + 1) n 0 0 none 0 0 ((W.alloc (.map #[] 0)).alloc (.map #[] 0)) := by
  have hlt := hs.lt
  have hmb := hs.mapLt
  have b1 := below_new (Below.refl W.heap.size W) (.map #[] 0)
  have b2 := below_new (Below.refl (W.alloc (.map #[] 0)).heap.size (W.alloc (.map #[] 0))) (.map #[] 0)
  have hz : (W.alloc (.map #[] 0)).heap.size = W.heap.size + 1 := by simp
  have m1 := MapV.made W (.slice none 0 0)
  have m2 := MapV.made (W.alloc (.map #[] 0)) (.int .i64 0)
  rw [hz] at m2
  refine ⟨[], fun _ => 0, fun _ => none, none, newPl n, [], ⟨(hs.below b1).below b2, mn_new n, rfl, RowT.nil _ _, fun k h => (by obtain ⟨_, h, _⟩ := h; cases h), List.nodup_nil, ⟨_, m1.kept (b2.block _ m1.lt), fun t V h => by cases h⟩, m2, ⟨by omega, by omega, by omega⟩, by omega, by omega, (hb.trans (b1.mono hlt)).trans (b2.mono (by omega))⟩, ⟨fun _ => rfl, fun _ => rfl, fun t => ⟨fun h => (by cases h), fun h => by cases h⟩, fun t h => by cases h⟩⟩
end

end Go.Proofs.Ytfggkkhehaafcaa

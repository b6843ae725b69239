/- Pin: weights are held in pages. -/
import Derived.Test.YtfggkkhehaafcaaRows
import Derived.Test.YtfggkkhehaafcaaPages
import Derived.Test.YtfggkkhehaafcaaView
import Derived.Test.YtfggkkhehaafcaaOwn
import Derived.Test.YtfggkkhehaafcaaReadsP
import Derived.Test.YtfggkkhehaafcaaReadsQ
import Derived.Test.YtfggkkhehaafcaaLeast
import Derived.Test.YtfggkkhehaafcaaLays
import Derived.Test.YtfggkkhehaafcaaGoods
import Derived.Test.YtfggkkhehaafcaaPlain
import Derived.Test.YtfggkkhehaafcaaLies
import Derived.Test.YtfggkkhehaafcaaCopies
import Derived.Test.YtfggkkhehaafcaaNeeds
import Derived.Test.YtfggkkhehaafcaaPlace
import Derived.Test.YtfggkkhehaafcaaPlaces
import Derived.Test.YtfggkkhehaafcaaFetch
import Derived.Test.YtfggkkhehaafcaaFetched
import Derived.Test.YtfggkkhehaafcaaRelease
import Derived.Test.YtfggkkhehaafcaaMapV
import Derived.Test.YtfggkkhehaafcaaShPlain
import Derived.Test.YtfggkkhehaafcaaShActs
import Derived.Test.YtfggkkhehaafcaaShAt
import Derived.Test.YtfggkkhehaafcaaIndex
import Derived.Test.YtfggkkhehaafcaaDelete
import Derived.Test.YtfggkkhehaafcaaShRd
import Derived.Test.YtfggkkhehaafcaaShTurn
import Derived.Test.YtfggkkhehaafcaaShRel
import Derived.Test.YtfggkkhehaafcaaShLoose
import Derived.Test.YtfggkkhehaafcaaShRoom
import Derived.Test.YtfggkkhehaafcaaShBring
import Derived.WalkKit
import Derived.ProofKit
import Derived.OpenShut
import Derived.Below
import Derived.WalkLawsBesides
import Derived.Deep.QuietTactic
import Derived.BigQuiet
import Derived.Maps.OwnSet
import Derived.OwnWalk
namespace Go.Proofs.Ytfggkkhehaafcaa
open Go.ChangeShapes Go.WideShapes Go.ChangeAt Go.RowKit
set_option linter.unusedVariables false
set_option linter.unusedSimpArgs false

def more (P : List Int) (p : Nat) (y : It) : It := { y with P := P, pins := p }
theorem more_nm (P : List Int) (p : Nat) (y : It) : (more P p y).nm = y.nm := rfl

def withP (P : List Int) (y : It) : It := { y with P := P }
theorem withP_nm (P : List Int) (y : It) : (withP P y).nm = y.nm := rfl
theorem chg_chg (f g : It → It) (hg : ∀ x, (g x).nm = x.nm) (hf : ∀ x, f (g x) = f x) (n : ByteArray) (L : List It) : chg f n (chg g n L) = chg f n L := by
  unfold chg
  rw [List.map_map]
  congr 1
  funext y
  simp only [Function.comp]
  by_cases e : y.nm = n
  · rw [if_pos e, if_pos (by rw [hg]; exact e), if_pos e, hf]
  · rw [if_neg e, if_neg e]

/-- behind a Pin: held once more, pinned last -/
theorem pin_end {B : Nat} {w : World} {x mb b : Nat} {A : ByteArray → Nat} {a : Option Addr} {c : Nat} {L : List It} {N : Nat} {it it' : It} (hd : Nd L) (hi : look L it.nm = some it) (e1 : it'.nm = it.nm) (e2 : it'.W = it.W) (e3 : it'.is = true)
    (h : ShAt B w x mb b A a c ((names L).filter (fun u => !decide (u = it.nm)) ++ [it.nm]) (chg (more it'.P (it'.pins + 1)) it.nm L) N) : ShAt B w x mb b A a c (names (bump L it')) (bump L it') N := by
  have en : names (bump L it') = (names L).filter (fun u => !decide (u = it.nm)) ++ [it.nm] := by
    unfold bump
    rw [names_snoc, names_rem, e1]
    rw [if_pos e3]
  rw [en]
  obtain ⟨hm, _⟩ := look_some hi
  refine h.perm (fun n => ?_) (fun y hy => ?_)
  · rw [look_bump, look_chg _ (more_nm _ _), e1]
    by_cases c : n = it.nm
    · rw [if_pos c, if_pos c, c, hi]
      rfl
    · rw [if_neg c, if_neg c]
  · rcases bump_mem hy with ⟨h1, h2⟩ | rfl
    · rw [e1] at h2
      refine ⟨y, ?_, rfl, rfl, rfl, rfl⟩
      refine List.mem_map.2 ⟨y, h1, ?_⟩
      rw [if_neg h2]
    · refine ⟨more it'.P (it'.pins + 1) it, List.mem_map.2 ⟨it, hm, by rw [if_pos rfl]⟩, ?_, ?_, rfl, rfl⟩
      · exact e1.symm
      · exact e2.symm

/-- the end of Pin, as it stands in memory: the name leaves the order and is laid behind it -/
theorem pin_tail {cap g : Nat} {s : Pl} {B : Nat} {w0 w : World} {x mb b : Nat} {A : ByteArray → Nat} {a : Option Addr} {c : Nat} {L L1 : List It} {N : Nat} (h : ShAt B w x mb b A a c (names L) L1 N) (hp : PoolAt B w b g s) (hnd : (names L).Nodup) (hl : (names L).length ≤ 1000) (n : ByteArray) (ho : OffS B TS (blkOf a) w0 w) :
    Calls Try.prog 56 #[.pointer (some ⟨x, 0, none⟩), .string n] w fun e w1 => e = .returned (.tuple #[]) ∧ ∃ a1 l1 c1 a2 c2 w2 v, w1.cell? ⟨x, 2, none⟩ = some (.slice a1 l1 c1) ∧ (Builtin.append_ #[46, 46] 46 #[.slice a1 l1 c1, .slice (some ⟨w1.heap.size, 0, none⟩) 1 1]).run Try.prog (w1.alloc (.cells #[.string n] 9)) = .ok (.slice a2 (l1 + 1) c2) w2 ∧
      w2.cell? ⟨x, 2, none⟩ = some v ∧ w2.frozen? ⟨x, 2, none⟩ = false ∧
      (∀ w3, w2.setCell ⟨x, 2, none⟩ (.slice a2 (l1 + 1) c2) = w3 → ShAt B w3 x mb b A a2 c2 ((names L).filter (fun u => !decide (u = n)) ++ [n]) L1 N ∧ PoolAt B w3 b g s ∧ OffS B TS (blkOf a) w0 w3 ∧ (∀ k, blkOf a2 k → blkOf a k ∨ w0.heap.size ≤ k)) := by
  have hs := ho.size
  have fin : ∀ w1, ShAt B w1 x mb b A a c ((names L).filter (fun u => !decide (u = n))) L1 N → PoolAt B w1 b g s → OffS B TS (blkOf a) w0 w1 → ∃ a1 l1 c1 a2 c2 w2 v, w1.cell? ⟨x, 2, none⟩ = some (.slice a1 l1 c1) ∧ (Builtin.append_ #[46, 46] 46 #[.slice a1 l1 c1, .slice (some ⟨w1.heap.size, 0, none⟩) 1 1]).run Try.prog (w1.alloc (.cells #[.string n] 9)) = .ok (.slice a2 (l1 + 1) c2) w2 ∧
      w2.cell? ⟨x, 2, none⟩ = some v ∧ w2.frozen? ⟨x, 2, none⟩ = false ∧
      (∀ w3, w2.setCell ⟨x, 2, none⟩ (.slice a2 (l1 + 1) c2) = w3 → ShAt B w3 x mb b A a2 c2 ((names L).filter (fun u => !decide (u = n)) ++ [n]) L1 N ∧ PoolAt B w3 b g s ∧ OffS B TS (blkOf a) w0 w3 ∧ (∀ k, blkOf a2 k → blkOf a k ∨ w0.heap.size ≤ k)) := fun w1 h1 p1 o1 => by
    have hBw : B ≤ w1.heap.size := by have := h1.Bx; have := h1.top.lt; omega
    have hlen := List.length_filter_le (fun u => !decide (u = n)) (names L)
    obtain ⟨a2, c2, w2, hr, hrow, o2, hbl⟩ := run_append_text h1.ord n (by omega) hBw 46
    have eb : w2.heap[x]? = w1.heap[x]? := o2.row h1.top rfl (fun hb => by
      obtain ⟨_, m, r⟩ := own_blk h1.ord.own hb
      exact r.ne h1.top (by decide) rfl)
    have top2 := h1.top.of_block eb
    refine ⟨a, _, c, a2, c2, w2, _, h1.c2, hr, (cell_of_block eb 2).trans h1.c2, top2.open_ 2, ?_⟩
    rintro w3 rfl
    have kb : ∀ i, i ≠ x → (w2.setCell ⟨x, 2, none⟩ (.slice a2 (((names L).filter (fun u => !decide (u = n))).length + 1) c2)).heap[i]? = w2.heap[i]? := fun i hi => Below.heap_setCell w2 ⟨x, 2, none⟩ _ i hi
    have k2 : ∀ {t m i}, Row t w1 i m → t ≠ 9 → w2.heap[i]? = w1.heap[i]? := fun r ht => o2.row r rfl (fun hb => by
      obtain ⟨_, m, r'⟩ := own_blk h1.ord.own hb
      exact r'.ne r (fun e => ht e.symm) rfl)
    have hl2 := hrow.len
    refine ⟨⟨h1.Bx, h1.Bm, top2.set 2 _, ?_, ?_, ?_, ?_, ?_, fun y hy => (h1.lot y hy).keep fun i t hi ht hc => ?_, h1.inj⟩, ?_, ?_, fun k hk => ?_⟩
    · exact (World.cell?_setCell_other _ _ _ _ (by simp)).trans ((cell_of_block eb 0).trans h1.c0)
    · exact (World.cell?_setCell_other _ _ _ _ (by simp)).trans ((cell_of_block eb 1).trans h1.c1)
    · rw [hl2]
      exact World.cell?_setCell_same _ _ _ ((cell_of_block eb 2).trans h1.c2)
    · rw [hl2]
      exact hrow.keep fun i hi => by
        obtain ⟨_, m, r⟩ := own_blk hrow.own hi
        exact kb i (r.ne top2 (by decide))
    · refine h1.map.kept ((kb mb (h1.map.notRow h1.top).symm).trans (o2.block mb h1.map.lt (.inr ⟨fun hb => ?_, fun _ _ => rfl⟩)))
      obtain ⟨_, m, r⟩ := own_blk h1.ord.own hb
      exact h1.map.notRow r rfl
    · have ne : i ≠ x := by rintro rfl; rw [h1.top.type] at ht; obtain rfl := Option.some.inj ht; revert hc; decide
      rw [kb i ne]
      refine o2.block i hi (.inr ⟨fun hb => ?_, fun _ _ => rfl⟩)
      obtain ⟨_, m, r⟩ := own_blk h1.ord.own hb
      rw [r.type] at ht
      obtain rfl := Option.some.inj ht
      revert hc
      decide
    · exact p1.of_blocks ((kb b (p1.top.ne h1.top (by decide))).trans (k2 p1.top (by decide))) ((kb g (p1.row.ne h1.top (by decide))).trans (k2 p1.row (by decide)))
    · exact (o1.then_ (o2.mono (fun _ _ => rfl) (fun _ h => h))).then_ (OffS.setT top2 h1.Bx rfl 2 _)
    · rcases hbl k hk with e | e
      · exact .inl e
      · exact .inr (Nat.le_trans o1.size e)
  by_cases hm : n ∈ names L
  · refine (leave_yes h hnd n hm hl).mono ?_
    rintro e w1 ⟨rfl, r1, r2⟩
    exact ⟨rfl, fin w1 r1 (hp.offT r2 h.ord rfl rfl) (ho.then_ (r2.mono T71_TS (fun _ h => h)))⟩
  · refine (leave_no h n hm hl).mono ?_
    rintro e w1 ⟨rfl, rfl⟩
    refine ⟨rfl, fin w1 ?_ hp ho⟩
    rw [List.filter_eq_self.2 (fun u hu => by have q : ¬ u = n := fun e => hm (by rw [← e]; exact hu); simp [q])]
    exact h

theorem pin14_call {cap g : Nat} {s : Pl} {B : Nat} {w : World} {x mb b : Nat} {A : ByteArray → Nat} {a : Option Addr} {c : Nat} {L : List It} {N : Nat} (h : ShAt B w x mb b A a c (names L) L N) (hp : PoolAt B w b g s) (hok : ShOk cap s L) (hcap : cap ≤ 1000) (n : ByteArray) (hn : n.size ≤ maxLen) :
    Calls Try.prog 24 #[.pointer (some ⟨x, 0, none⟩), .string n] w fun e w' => e = .returned (.int .i64 (pinE s L n)) ∧ (∃ a' c', ShAt B w' x mb b A a' c' (names (pinP s L n).2) (pinP s L n).2 N ∧ ∀ k, blkOf a' k → blkOf a k ∨ w.heap.size ≤ k) ∧ PoolAt B w' b g (pinP s L n).1 ∧ OffS B TS (blkOf a) w w' := by
  have c1 := h.c1
  have hk := h.lookW n hn
  have nl := names_len L
  have few := hok.few
  cases hi : look L n with
  | none =>
    have e0 : pinE s L n = 25 := by unfold pinE; rw [hi]
    rw [pinP_no (by rw [e0]; decide), e0]
    rw [ptr_none hi] at hk
    have HH := hidden_ (And.intro h hp)
    clear h hi hn hp hok hcap e0
    go_enter Try.func24, Try.ntmps24
    go_wp2
    go_ret
    exact ⟨rfl, ⟨a, c, HH.out.1, fun _ h => .inl h⟩, HH.out.2, OffS.refl _ _ _ _⟩
  | some it =>
    rw [ptr_some hi] at hk
    obtain ⟨hm, hnm⟩ := look_some hi
    have hl := h.lot it hm
    have kI := isResident_call h n (by omega)
    have hpin := hok.pins it hm
    by_cases hs : it.is = true
    · have e0 : pinE s L n = 0 := by unfold pinE; rw [hi]; simp only; rw [if_pos hs]
      have e1 : pinP s L n = (s, bump L it) := by unfold pinP; rw [hi]; simp only; rw [if_pos hs]
      rw [e0, e1]
      rw [inT_yes (by rw [← hnm]; exact (names_is hok.nd hm).2 hs)] at kI
      have q := hl.c2
      have f := hl.top.open_ 2
      have h2 := h.setLot hok.nd hm 2 (.int .i64 ((it.pins + 1 : Nat) : Int)) (more it.P (it.pins + 1)) (more_nm _ _) (hl.setPins (it.pins + 1))
      have o2 : OffS B TS (blkOf a) w (w.setCell ⟨A it.nm, 2, none⟩ (.int .i64 ((it.pins + 1 : Nat) : Int))) := OffS.setT hl.top hl.Bk rfl 2 _
      have p2 : PoolAt B (w.setCell ⟨A it.nm, 2, none⟩ (.int .i64 ((it.pins + 1 : Nat) : Int))) b g s := hp.of_blocks (Below.heap_setCell w _ _ b (hp.top.ne hl.top (by decide))) (Below.heap_setCell w _ _ g (hp.row.ne hl.top (by decide)))
      have kT := pin_tail (cap := cap) (L := L) h2 p2 (names_nd hok.nd) (by omega) n o2
      have HE := hidden_ (fun (w3 : World) (a2 : Option Addr) (c2 : Nat) (r : ShAt B w3 x mb b A a2 c2 ((names L).filter (fun u => !decide (u = n)) ++ [n]) (chg (more it.P (it.pins + 1)) it.nm L) N) => pin_end (it := it) (it' := it) hok.nd (by rw [hnm]; exact hi) rfl rfl hs (by rw [hnm] at r ⊢; exact r))
      rw [hnm] at q f kT HE
      obtain ⟨k, ek⟩ : ∃ k, A n = k := ⟨_, rfl⟩
      obtain ⟨p, ep⟩ : ∃ p, it.pins = p := ⟨_, rfl⟩
      rw [ek] at q f hk kT
      rw [ep] at q kT HE hpin
      have ew : ((p + 1 : Nat) : Int) = (p : Int) + 1 := by omega
      rw [ew] at kT
      simp only
      clear h hi hn hp hok hm hl hs h2 o2 p2 ek ep hnm e0 e1 ew nl few
      go_enter Try.func24, Try.ntmps24
      go_wp2_with (first
        | (go_at_call 42; refine kI.mono ?_; rintro e w' ⟨rfl, h1⟩; obtain rfl := h1.symm)
        | (go_at_call 56; refine kT.mono ?_; rintro e w1 ⟨rfl, a1, l1, d1, a2, d2, w2, v2, q1, q2, q3, q4, q5⟩; have HQ := hidden_ q5; clear q5 kT)
        | (at_builtin; refine wpList_append_run rfl (.tmp 51) (.tmp 53) 46 rfl 46 rfl _ _ rfl rfl _ _ q2 ?_))
      go_ret
      obtain ⟨r1, r2, r3, r4⟩ := HQ.out _ rfl
      exact ⟨rfl, ⟨_, _, HE.out _ _ _ r1, r4⟩, r2, r3⟩
    · have hs' : it.is = false := by simpa using hs
      obtain ⟨hP0, hp0⟩ := hok.off it hm hs'
      rw [inT_no (by rw [← hnm]; exact fun e => hs ((names_is hok.nd hm).1 e))] at kI
      obtain ⟨wa, wc, lc0, wrow⟩ := hl.c0
      have hw := (hok.wts it hm).1
      by_cases hr : roomZ s L < needZ it.W.length
      · have e0 : pinE s L n = 6 := by unfold pinE; rw [hi]; simp only; rw [if_neg hs, if_pos hr]
        rw [pinP_no (by rw [e0]; decide), e0]
        have kB := bringIn_no h hp hok hcap n it.W it.W.length wa wc hw hr
        have HH := hidden_ (And.intro h hp)
        rw [hnm] at lc0
        obtain ⟨k, ek⟩ : ∃ k, A n = k := ⟨_, rfl⟩
        rw [ek] at hk lc0
        obtain ⟨l, el⟩ : ∃ l, it.W.length = l := ⟨_, rfl⟩
        rw [el] at kB lc0
        clear h hi hn hp hok hcap e0 hm hnm hl hpin hs hs' hP0 hp0 wrow hw hr nl few ek el
        go_enter Try.func24, Try.ntmps24
        go_wp2_with (first
          | (go_at_call 42; refine kI.mono ?_; rintro e w' ⟨rfl, h1⟩; obtain rfl := h1.symm)
          | (go_at_call 55; refine kB.mono ?_; rintro e w1 ⟨rfl, hb⟩))
        go_ret
        exact ⟨rfl, ⟨a, c, HH.out.1.below hb, fun _ h => .inl h⟩, HH.out.2.below hb, OffS.of_below hb⟩
      · have e0 : pinE s L n = 0 := by unfold pinE; rw [hi]; simp only; rw [if_neg hs, if_neg hr]
        have e1 : pinP s L n = (placeS (yieldsAll s L (needZ it.W.length)).1 (plus it.nm) it.W, bump (yieldsAll s L (needZ it.W.length)).2 (laidIt (yieldsAll s L (needZ it.W.length)).1 it)) := by unfold pinP; rw [hi]; simp only; rw [if_neg hs, if_neg hr]
        rw [e0, e1]
        have h16 := (hok.nm it hm).2
        have hpe := pin_place hok hr
        obtain ⟨i1, i2, i3, i4⟩ := yieldsAll_ok (cap := cap) (n := needZ it.W.length) _ s L rfl hok (need_room hr)
        have hi' := i3 n it hi (by simp [loose, hs'])
        have kB := bringIn_yes h hp hok hcap n (by rw [← hnm]; exact h16) it.W it.W.length wa wc wrow hw hr
        obtain ⟨q, eq⟩ : ∃ q, yieldsAll s L (needZ it.W.length) = q := ⟨_, rfl⟩
        rw [eq] at hpe i1 hi' kB ⊢
        rw [hnm] at hpe
        rw [hpe] at kB
        simp only
        have nl2 := names_len q.2
        have few2 := i1.few
        have key : Hid (∀ w1 a' l' c', RowI w.heap.size w1 a' l' c' (placeR q.1 (plus n) it.W) → ShAt B w1 x mb b A a c (names q.2) q.2 N → PoolAt B w1 b g (placeS q.1 (plus n) it.W) → OffS B TS (blkOf a) w w1 →
            (∃ v, w1.cell? ⟨A n, 1, none⟩ = some v) ∧ w1.frozen? ⟨A n, 1, none⟩ = false ∧ w1.cell? ⟨A n, 2, none⟩ = some (.int .i64 0) ∧ w1.frozen? ⟨A n, 2, none⟩ = false ∧
            Calls Try.prog 56 #[.pointer (some ⟨x, 0, none⟩), .string n] ((w1.setCell ⟨A n, 1, none⟩ (.slice a' l' c')).setCell ⟨A n, 2, none⟩ (.int .i64 1)) fun e w1 => e = .returned (.tuple #[]) ∧ ∃ a1 l1 c1 a2 c2 w2 v, w1.cell? ⟨x, 2, none⟩ = some (.slice a1 l1 c1) ∧ (Builtin.append_ #[46, 46] 46 #[.slice a1 l1 c1, .slice (some ⟨w1.heap.size, 0, none⟩) 1 1]).run Try.prog (w1.alloc (.cells #[.string n] 9)) = .ok (.slice a2 (l1 + 1) c2) w2 ∧
              w2.cell? ⟨x, 2, none⟩ = some v ∧ w2.frozen? ⟨x, 2, none⟩ = false ∧
              (∀ w3, w2.setCell ⟨x, 2, none⟩ (.slice a2 (l1 + 1) c2) = w3 → ShAt B w3 x mb b A a2 c2 (names (bump q.2 (laidIt q.1 it))) (bump q.2 (laidIt q.1 it)) N ∧ PoolAt B w3 b g (placeS q.1 (plus n) it.W) ∧ OffS B TS (blkOf a) w w3 ∧ (∀ k, blkOf a2 k → blkOf a k ∨ w.heap.size ≤ k))) := hidden_ (fun w1 a' l' c' hrow h1 p1 o1 => by
          have hm1 : it ∈ q.2 := (look_some hi').1
          have hl1 := h1.lot it hm1
          obtain ⟨pa1, pc1, lc1, _⟩ := hl1.c1
          have lc2 := hl1.c2
          have t1 := hl1.top
          have hBw : B ≤ w.heap.size := by have := h.Bx; have := h.top.lt; omega
          have lP := hl1.setPages (hrow.mono hBw)
          have h2 := h1.setLot i1.nd hm1 1 (.slice a' l' c') (withP (placeR q.1 (plus n) it.W)) (withP_nm _) lP
          obtain ⟨w2, ew2⟩ : ∃ w2, w1.setCell ⟨A it.nm, 1, none⟩ (.slice a' l' c') = w2 := ⟨_, rfl⟩
          rw [ew2] at h2 lP
          have hm2 : withP (placeR q.1 (plus n) it.W) it ∈ chg (withP (placeR q.1 (plus n) it.W)) it.nm q.2 := List.mem_map.2 ⟨it, hm1, by rw [if_pos rfl]⟩
          have h3 := h2.setLot (i1.nd.chg _ (withP_nm _) _) hm2 2 (.int .i64 ((1 : Nat) : Int)) (more (placeR q.1 (plus n) it.W) 1) (more_nm _ _) (lP.setPins 1)
          rw [withP_nm, chg_chg _ _ (withP_nm _) (fun _ => rfl)] at h3
          have o3 : OffS B TS (blkOf a) w (w2.setCell ⟨A it.nm, 2, none⟩ (.int .i64 ((1 : Nat) : Int))) := (o1.then_ (by rw [← ew2]; exact OffS.setT t1 hl1.Bk rfl 1 _)).then_ (OffS.setT lP.top lP.Bk rfl 2 _)
          have p3 : PoolAt B (w2.setCell ⟨A it.nm, 2, none⟩ (.int .i64 ((1 : Nat) : Int))) b g (placeS q.1 (plus n) it.W) := by
            have p2 : PoolAt B w2 b g (placeS q.1 (plus n) it.W) := by rw [← ew2]; exact p1.of_blocks (Below.heap_setCell w1 _ _ b (p1.top.ne t1 (by decide))) (Below.heap_setCell w1 _ _ g (p1.row.ne t1 (by decide)))
            exact p2.of_blocks (Below.heap_setCell w2 _ _ b (p2.top.ne lP.top (by decide))) (Below.heap_setCell w2 _ _ g (p2.row.ne lP.top (by decide)))
          have kT := pin_tail (cap := cap) (L := q.2) h3 p3 (names_nd i1.nd) (by omega) n o3
          rw [hnm] at lc1 lc2 t1 ew2
          rw [hp0] at lc2
          refine ⟨⟨_, lc1⟩, t1.open_ 1, lc2, t1.open_ 2, ?_⟩
          rw [ew2, ← hnm]
          rw [← hnm] at kT
          refine kT.mono ?_
          rintro e w5 ⟨rfl, a1, l1, d1, a2, d2, w6, v2, q1, q2, q3, q4, q5⟩
          refine ⟨rfl, a1, l1, d1, a2, d2, w6, v2, q1, q2, q3, q4, fun w7 e7 => ?_⟩
          obtain ⟨r1, r2, r3, r4⟩ := q5 w7 e7
          refine ⟨?_, r2, r3, r4⟩
          refine pin_end (it := it) (it' := laidIt q.1 it) i1.nd (by rw [hnm]; exact hi') rfl rfl rfl ?_
          have e8 : (laidIt q.1 it).pins = 0 := hp0
          rw [e8]
          exact r1)
        rw [hnm] at lc0
        obtain ⟨k, ek⟩ : ∃ k, A n = k := ⟨_, rfl⟩
        rw [ek] at hk lc0 key
        obtain ⟨l, el⟩ : ∃ l, it.W.length = l := ⟨_, rfl⟩
        rw [el] at kB lc0
        rw [hnm]
        clear h hi hn hp hok hcap e0 e1 hm hl hpin hs hs' hP0 hp0 wrow hw hr nl few ek el i1 i2 i3 i4 hi' hpe eq nl2 few2 h16
        go_enter Try.func24, Try.ntmps24
        go_wp2_with (first
          | (go_at_call 42; refine kI.mono ?_; rintro e w' ⟨rfl, h1⟩; obtain rfl := h1.symm)
          | (go_at_call 55; refine kB.mono ?_; rintro e w1 ⟨a', l', c', rfl, y1, y2, y3, y4⟩; obtain ⟨⟨v1, z1⟩, z2, z3, z4, z5⟩ := key.out w1 a' l' c' y1 y2 y3 y4; clear y1 y2 y3 y4 key kB)
          | (go_at_call 56; refine z5.mono ?_; rintro e w5 ⟨rfl, a1, l1, d1, a2, d2, w6, v2, q1, q2, q3, q4, q5⟩; have HQ := hidden_ q5; clear q5 z5)
          | (at_builtin; refine wpList_append_run rfl (.tmp 51) (.tmp 53) 46 rfl 46 rfl _ _ rfl rfl _ _ q2 ?_))
        go_ret
        obtain ⟨r1, r2, r3, r4⟩ := HQ.out _ rfl
        exact ⟨rfl, ⟨_, _, r1, r4⟩, r2, r3⟩

end Go.Proofs.Ytfggkkhehaafcaa

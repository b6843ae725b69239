/- Weights are brought into pages. -/
import Derived.Test.YtfggkkhehaafcaaRows
import Derived.Test.YtfggkkhehaafcaaPages
import Derived.Test.YtfggkkhehaafcaaView
import Derived.Test.YtfggkkhehaafcaaOwn
import Derived.Test.YtfggkkhehaafcaaReadsP
import Derived.Test.YtfggkkhehaafcaaReadsQ
import Derived.Test.YtfggkkhehaafcaaLeast
import Derived.Test.YtfggkkhehaafcaaLays
import Derived.Test.YtfggkkhehaafcaaGoods
import Derived.Test.YtfggkkhehaafcaaPlain
import Derived.Test.YtfggkkhehaafcaaLies
import Derived.Test.YtfggkkhehaafcaaCopies
import Derived.Test.YtfggkkhehaafcaaNeeds
import Derived.Test.YtfggkkhehaafcaaPlace
import Derived.Test.YtfggkkhehaafcaaPlaces
import Derived.Test.YtfggkkhehaafcaaFetch
import Derived.Test.YtfggkkhehaafcaaFetched
import Derived.Test.YtfggkkhehaafcaaRelease
import Derived.Test.YtfggkkhehaafcaaMapV
import Derived.Test.YtfggkkhehaafcaaShPlain
import Derived.Test.YtfggkkhehaafcaaShActs
import Derived.Test.YtfggkkhehaafcaaShAt
import Derived.Test.YtfggkkhehaafcaaIndex
import Derived.Test.YtfggkkhehaafcaaDelete
import Derived.Test.YtfggkkhehaafcaaShRd
import Derived.Test.YtfggkkhehaafcaaShTurn
import Derived.Test.YtfggkkhehaafcaaShRel
import Derived.Test.YtfggkkhehaafcaaShLoose
import Derived.Test.YtfggkkhehaafcaaShRoom
import Derived.WalkKit
import Derived.ProofKit
import Derived.OpenShut
import Derived.Below
import Derived.WalkLawsBesides
import Derived.Deep.QuietTactic
import Derived.BigQuiet
import Derived.Maps.OwnSet
import Derived.Deep.RegionWith
import Derived.Deep.LoopGhost
namespace Go.Proofs.Ytfggkkhehaafcaa
open Go.ChangeShapes Go.WideShapes Go.ChangeAt Go.RowKit
set_option linter.unusedVariables false
set_option linter.unusedSimpArgs false

/-- a text is laid behind a row of texts of the call's own -/
theorem run_append_text {B : Nat} {w : World} {a : Option Addr} {l c : Nat} {ts : List ByteArray} (h : RowT B w a l c ts) (n : ByteArray) (hl : l ≤ 1000000) (hB : B ≤ w.heap.size) (ty : TypeId) :
    ∃ a' c' w', (Builtin.append_ #[46, 46] ty #[.slice a l c, .slice (some ⟨w.heap.size, 0, none⟩) 1 1]).run Try.prog (w.alloc (.cells #[.string n] 9)) = .ok (.slice a' (l + 1) c') w' ∧ RowT B w' a' (l + 1) c' (ts ++ [n]) ∧ OffS B (fun _ => false) (blkOf a) w w' ∧ (∀ k, blkOf a' k → blkOf a k ∨ w.heap.size ≤ k) := by
  obtain ⟨i0, hi, hz0, hz1, hz2⟩ := info_parts info9
  obtain ⟨v', w', hr, ho, hg, _, hw⟩ := run_append_own_at (P := Try.prog) (w := w.alloc (.cells #[.string n] 9)) B 46 ty 9 i0 _ 1 16 Try.underlying46 hi hz0 hz1 hz2 rfl (by decide) _ l _ (World.ownsRow.alloc h.own _) ⟨w.heap.size, 0, none⟩ 1 1 [.string n] rfl (one_new w _ 9) (fun u hu => by rw [List.mem_singleton.1 hu]; rfl) (by unfold maxLen; omega) (by omega) (by simp; omega)
  obtain ⟨a', c', rfl⟩ := own_form ho
  have ob : ∀ {a : Option Addr} {l c k : Nat}, (Value.slice a l c).ownBlock = some k → blkOf a k := fun {a l c k} e => by
    cases a with
    | none => cases e
    | some y => exact ⟨y, rfl, by simpa [Value.ownBlock] using e⟩
  have bo : ∀ {a : Option Addr} {l c k : Nat}, blkOf a k → (Value.slice a l c).ownBlock = some k := fun {a l c k} e => by
    obtain ⟨y, rfl, rfl⟩ := e
    rfl
  refine ⟨a', c', w', hr, ⟨by simp [h.len], by rw [List.map_append]; exact ho⟩, ⟨hg.os, hg.tape, hg.output, Nat.le_trans (by simp) hg.size, fun k hk hc => ?_⟩, fun k hk => ?_⟩
  · have hne : some k ≠ (Value.slice a l c).ownBlock := fun e => by
      rcases hc with hc | hc
      · have := (own_blk h.own (ob e.symm)).1
        omega
      · exact hc.1 (ob e.symm)
    rw [hg.block k (by simp; omega) hne]
    exact heap_alloc_old w _ hk
  · rcases hw with e | e
    · exact .inl (ob (e ▸ bo hk))
    · have e' := bo (l := l + 1) (c := c') hk
      rw [e] at e'
      simp only [Option.some.injEq, World.alloc, Array.size_push] at e'
      exact .inr (by omega)

theorem bringIn_no {cap g : Nat} {s : Pl} {B : Nat} {w : World} {x mb b : Nat} {A : ByteArray → Nat} {a : Option Addr} {c : Nat} {L : List It} {N : Nat} (h : ShAt B w x mb b A a c (names L) L N) (hp : PoolAt B w b g s) (hok : ShOk cap s L) (hcap : cap ≤ 1000) (n : ByteArray) (V : List Int) (l : Nat) (wa : Option Addr) (wc : Nat) (hw : l ≤ 2000) (hr : roomZ s L < needZ l) :
    Calls Try.prog 55 #[.pointer (some ⟨x, 0, none⟩), .string n, .slice wa l wc] w fun e w' => e = .returned (.tuple #[.slice none 0 0, .int .i64 6]) ∧ Below w.heap.size w w' := by
  have k71 := need_call (l : Int) (by omega) (by omega)
  have k75 := couldHave_call h hp hok hcap
  obtain ⟨R, eR⟩ : ∃ R, roomZ s L = R := ⟨_, rfl⟩
  obtain ⟨M, eM⟩ : ∃ M, needZ (l : Int) = M := ⟨_, rfl⟩
  rw [eR] at k75 hr
  rw [eM] at k71 hr
  clear h hp hok hcap eR eM
  go_enter Try.func55, Try.ntmps55
  go_wp2_with (first
    | (go_at_call 71; refine (k71 _).mono ?_; rintro e w' ⟨rfl, h1⟩; obtain rfl := h1.symm)
    | (go_at_call 75; refine k75.mono ?_; rintro e W1 ⟨rfl, hb⟩))
  go_ret2
  exact ⟨rfl, hb⟩

theorem bringIn_yes {cap g : Nat} {s : Pl} {B : Nat} {w : World} {x mb b : Nat} {A : ByteArray → Nat} {a : Option Addr} {c : Nat} {L : List It} {N : Nat} (h : ShAt B w x mb b A a c (names L) L N) (hp : PoolAt B w b g s) (hok : ShOk cap s L) (hcap : cap ≤ 1000) (n : ByteArray) (hn : n.size ≤ 16) (V : List Int) (l : Nat) (wa : Option Addr) (wc : Nat) (hW : RowB B w wa l wc V) (hw : l ≤ 2000) (hr : ¬ roomZ s L < needZ l) :
    Calls Try.prog 55 #[.pointer (some ⟨x, 0, none⟩), .string n, .slice wa l wc] w fun e w' => ∃ a' l' c', e = .returned (.tuple #[.slice a' l' c', .int .i64 (placeE (yieldsAll s L (needZ l)).1 (plus n) V)]) ∧
      RowI w.heap.size w' a' l' c' (placeR (yieldsAll s L (needZ l)).1 (plus n) V) ∧ ShAt B w' x mb b A a c (names (yieldsAll s L (needZ l)).2) (yieldsAll s L (needZ l)).2 N ∧
      PoolAt B w' b g (placeS (yieldsAll s L (needZ l)).1 (plus n) V) ∧ OffS B TS (blkOf a) w w' := by
  have k71 := need_call (l : Int) (by omega) (by omega)
  have k75 := couldHave_call h hp hok hcap
  have HA := hidden_ (And.intro h (And.intro hp hok))
  have HR := hidden_ hr
  have HC := hidden_ hcap
  have HW := hidden_ hW
  have hBw : B ≤ w.heap.size := by have := h.Bx; have := h.top.lt; omega
  obtain ⟨R, eR⟩ : ∃ R, roomZ s L = R := ⟨_, rfl⟩
  obtain ⟨M, eM⟩ : ∃ M, needZ (l : Int) = M := ⟨_, rfl⟩
  rw [eR] at k75 hr
  rw [eM] at k71 hr HR
  simp only [eM]
  obtain ⟨q, eq⟩ : ∃ q, yieldsAll s L M = q := ⟨_, rfl⟩
  have HQ := hidden_ eq
  simp only [eq]
  obtain ⟨E, eE⟩ : ∃ E, placeE q.1 (plus n) V = E := ⟨_, rfl⟩
  have HE := hidden_ eE
  simp only [eE]
  clear h hp hok hcap hW eR eM eq eE
  go_enter Try.func55, Try.ntmps55
  go_wp2_with (first
    | (go_at_call 71; refine (k71 _).mono ?_; rintro e w' ⟨rfl, h1⟩; obtain rfl := h1.symm)
    | (go_at_call 75; refine k75.mono ?_; rintro e W1 ⟨rfl, hb⟩))
  have HB := hidden_ hb
  clear hb k75
  go_loopg [] ((L.filter loose).length + 1) (fun k wr => ∃ s1 L1, (L1.filter loose).length < k ∧ ShAt B wr x mb b A a c (names L1) L1 N ∧ PoolAt B wr b g s1 ∧ ShOk cap s1 L1 ∧ M ≤ roomZ s1 L1 ∧ yieldsAll s1 L1 M = q ∧ OffS B TS (blkOf a) w wr)
  case atStart => exact ⟨s, L, Nat.lt_succ_self _, HA.out.1.below HB.out, HA.out.2.1.below HB.out, HA.out.2.2, by have := HR.out; omega, HQ.out, OffS.of_below HB.out⟩
  case round =>
    obtain ⟨s1, L1, hk, h1, p1, ok1, hr1, hq1, o1⟩ := hrel
    have k47 := atHand14_call h1 p1 ok1.good
    by_cases hc : hand s1 < M
    · obtain ⟨y, hy⟩ := room_loose hc hr1
      obtain ⟨y1, y2, y3⟩ := find_loose hy
      have ly := loose_of y2 y3
      have k28 := fun m => yield_call (h1.drewN m) (p1.drewN m) ok1 HC.out
      have e1 : yieldB L1 = true := by unfold yieldB; rw [hy]; rfl
      have e2 : yieldP s1 L1 = (relS s1 y.P, rel L1 y.nm) := by unfold yieldP; rw [hy]
      rw [e1, e2] at k28
      have hk2 : ((rel L1 y.nm).filter loose).length < gk - 1 := by have := (looseP_rel ok1.nd y1 ly).2; omega
      have HN := hidden_ (And.intro hk2 (And.intro (ok1.release y1 y3) (And.intro (room_rel ok1 y1 ly) (And.intro (yieldsAll_step ok1.nd hc hy) o1))))
      have HG := hidden_ (And.intro hq1 hr1)
      have hgk : gk - 1 < gk := by omega
      obtain ⟨Z, eZ⟩ : ∃ Z, hand s1 = Z := ⟨_, rfl⟩
      rw [eZ] at k47 hc
      clear h1 p1 ok1 hr1 hq1 o1 y1 y2 y3 hy ly e1 e2 hk2 hk eZ
      go_wp2_with (first
        | (go_at_call 47; refine k47.mono ?_; rintro e W2 ⟨rfl, m', h1⟩; have k28' := k28 m'; rw [← h1] at k28'; have HD := hidden_ h1; clear h1 k28)
        | (go_at_call 28; refine k28'.mono ?_; rintro e W3 ⟨rfl, r1, r2, r3⟩))
      go_roundg (gk - 1)
      case measure => exact hgk
      case rel =>
        refine ⟨_, _, HN.out.1, r1, r2, HN.out.2.1, by rw [HN.out.2.2.1]; exact HG.out.2, by rw [← HN.out.2.2.2.1]; exact HG.out.1, ?_⟩
        rw [HD.out] at r3
        exact HN.out.2.2.2.2.then_ ⟨r3.os, r3.tape, r3.output, r3.size, r3.block⟩
    · rw [yieldsAll_stop hc] at hq1
      subst hq1
      obtain ⟨Z, eZ⟩ : ∃ Z, hand s1 = Z := ⟨_, rfl⟩
      rw [eZ] at k47 hc
      have hrow := HW.out.keep (w' := wr) fun k hk => by
        obtain ⟨_, m, r⟩ := own_blk HW.out.own hk
        exact o1.row r rfl (fun hb => by
          obtain ⟨_, m', r'⟩ := own_blk HA.out.1.ord.own hb
          exact r'.ne r (by decide) rfl)
      have k76 := fun m => placed_call (p1.drewN m) ok1.good (Nat.le_refl _) (plus n) wa l wc V (fun w' o => (hrow.off (Off.of_drawn o rfl) rfl).reads)
      have c0 := fun m => (h1.drewN m).c0
      have HN := hidden_ (And.intro h1 o1)
      have hnn : n.size ≤ 16 := hn
      simp only at HE
      rw [HE.out] at k76
      clear h1 p1 ok1 hr1 o1 eZ hrow hk
      go_wp2_with (first
        | (go_at_call 47; refine k47.mono ?_; rintro e W2 ⟨rfl, m', h1⟩; have k76' := k76 m'; have c0' := c0 m'; rw [← h1] at k76' c0'; have HD := hidden_ h1; clear h1 k76 c0)
        | (go_at_call 76; refine k76'.mono ?_; rintro e W3 ⟨a', l', c', rfl, r1, r2, r3⟩))
      go_ret2
      have r3' : Off B TP wr W3 := Off.of_drawn r3 HD.out
      refine ⟨_, _, _, rfl, r1.mono (by rw [HD.out]; exact HN.out.2.size), HN.out.1.off r3' rfl rfl rfl rfl rfl, r2, HN.out.2.then_ ((r3'.toS _).mono TP_TS (fun _ h => h))⟩

end Go.Proofs.Ytfggkkhehaafcaa

/- Acts of one among several sequences: what holds of all of them goes on holding, and each row that is there stays. -/
import Derived.Test.YtgjjeggopeppfaaRows
import Derived.Test.YtgjjeggopeppfaaPages
import Derived.Test.YtgjjeggopeppfaaView
import Derived.Test.YtgjjeggopeppfaaOwn
import Derived.Test.YtgjjeggopeppfaaLeast
import Derived.Test.YtgjjeggopeppfaaLays
import Derived.Test.YtgjjeggopeppfaaTurns
import Derived.Test.YtgjjeggopeppfaaGoods
import Derived.Test.YtgjjeggopeppfaaNews
import Derived.Test.YtgjjeggopeppfaaLies
import Derived.Test.YtgjjeggopeppfaaSeqs
import Derived.Test.YtgjjeggopeppfaaSeqAt
import Derived.Test.YtgjjeggopeppfaaSeqRd
import Derived.Test.YtgjjeggopeppfaaReadsP
import Derived.Test.YtgjjeggopeppfaaReadsQ
import Derived.Test.YtgjjeggopeppfaaRoom1
import Derived.Test.YtgjjeggopeppfaaRoom
import Derived.Test.YtgjjeggopeppfaaCopyLast
import Derived.Test.YtgjjeggopeppfaaForks
import Derived.Test.YtgjjeggopeppfaaRows13
import Derived.Test.YtgjjeggopeppfaaManySq
import Derived.Test.YtgjjeggopeppfaaManyRoom
import Derived.WalkKit
import Derived.ProofKit
import Derived.OpenShut
import Derived.Below
import Derived.WalkLawsBesides
import Derived.Deep.QuietTactic
import Derived.BigQuiet
namespace Go.Proofs.Ytgjjeggopeppfaa
open Go.ChangeShapes Go.WideShapes Go.ChangeAt Go.RowKit
set_option linter.unusedVariables false
set_option linter.unusedSimpArgs false

/-- each row that is there is what it should be -/
def RowsAt (wd : Nat) (s : Pl) (K : Nat) (Q : Nat → Sq) (R : Nat → Nat → List Int) : Prop :=
  ∀ i, i < K → ∀ k, (Q i).st ≤ k → k < (Q i).n → ∀ c, c < wd → (s.pg (pageZ wd (Q i).P (Q i).st k).toNat).cell (cellN wd (Q i).st k + c) = (R i k).getD c 0

theorem rows_apart {r wd a b c C : Nat} (hr : 0 < r) (hab : a ≠ b) (hq : a / r = b / r) (hc : c < wd) : ¬ (b % r * wd ≤ a % r * wd + c ∧ a % r * wd + c < b % r * wd + wd) := by
  have ha := Nat.div_add_mod a r
  have hb := Nat.div_add_mod b r
  rw [hq] at ha
  have hne : a % r ≠ b % r := fun e => hab (by omega)
  generalize a % r = x at hne
  generalize b % r = y at hne
  rintro ⟨h1, h2⟩
  rcases Nat.lt_or_gt_of_ne hne with h | h
  · have : (x + 1) * wd ≤ y * wd := Nat.mul_le_mul_right _ h
    rw [Nat.add_mul, Nat.one_mul] at this
    omega
  · have : (y + 1) * wd ≤ x * wd := Nat.mul_le_mul_right _ h
    rw [Nat.add_mul, Nat.one_mul] at this
    omega

theorem Many.app {N : Nat} {t : ByteArray} {wd : Nat} {s : Pl} {K : Nat} {Q : Nat → Sq} (h : Many N t wd s K Q) {i : Nat} (hi : i < K) (zs : List Int) (hw : ∀ z ∈ zs, (Lit.int .i64 z).wf = true) (hn : (Q i).n < 1000) (h0 : appE wd t s (Q i) zs = 0) :
    Many N t wd (appS wd t s (Q i) zs) K (upd Q i (appQ wd t s (Q i) zs)) ∧ freeTo (appS wd t s (Q i) zs).pg N + (if needB wd s (Q i) = true then 1 else 0) = freeTo s.pg N ∧
      ∀ R, RowsAt wd s K Q R → RowsAt wd (appS wd t s (Q i) zs) K (upd Q i (appQ wd t s (Q i) zs)) (fun j k => if j = i ∧ k = (Q i).n then zs else R j k) := by
  have hq := h.ok i hi
  obtain ⟨hlen, h1⟩ := appE_zero h0
  have hr := h.roomed hi h1
  have eQ : appQ wd t s (Q i) zs = ⟨roomP wd t s (Q i), (Q i).st, (Q i).n + 1⟩ := by unfold appQ; rw [if_pos h0]
  have eS : appS wd t s (Q i) zs = rowTo (roomS wd t s (Q i)) (lastZ (roomP wd t s (Q i))) (cellN wd (Q i).st (Q i).n) zs wd := by unfold appS; rw [if_pos h0, hr.zi]
  have hok : SqOk wd (appQ wd t s (Q i) zs) := hq.app hn
  have hG := hr.good.rowTo (lastZ (roomP wd t s (Q i))) (cellN wd (Q i).st (Q i).n) zs wd
  rw [← eS] at hG
  have hcl : cellN wd (Q i).st (Q i).n + wd ≤ 32 := by
    have := cell_lt hq.w0 hq.w1 (Q i).st (Q i).n (wd - 1) (by have := hq.w0; omega)
    have := hq.w0
    omega
  rw [row_all hr.used _ zs wd hcl] at eS
  have hrr := hq.rr
  obtain ⟨l1, l2⟩ := room_lt hq h1
  have hlt : ((Q i).n - (Q i).st) / (32 / wd) < (roomP wd t s (Q i)).length := by rw [Nat.div_lt_iff_lt_mul (by omega)]; exact l1
  have hLe : (Q i).P.length ≤ (roomP wd t s (Q i)).length := by rw [roomP_len hq]; split <;> omega
  obtain ⟨s1, es1⟩ : ∃ s1, roomS wd t s (Q i) = s1 := ⟨_, rfl⟩
  obtain ⟨P1, eP1⟩ : ∃ P1, roomP wd t s (Q i) = P1 := ⟨_, rfl⟩
  obtain ⟨s2, es2⟩ : ∃ s2, appS wd t s (Q i) zs = s2 := ⟨_, rfl⟩
  rw [es1, eP1] at hr eS
  rw [eP1] at eQ hlt hLe
  rw [es2] at eS hG ⊢
  obtain ⟨Z, eZ⟩ : ∃ Z, lastZ P1 = Z := ⟨_, rfl⟩
  rw [eZ] at hr eS
  obtain ⟨z0, z1⟩ := hr.inn Z hr.z1
  have pgZ : s2.pg Z.toNat = { s1.pg Z.toNat with cell := fun c => if cellN wd (Q i).st (Q i).n ≤ c ∧ c < cellN wd (Q i).st (Q i).n + wd then zs.getD (c - cellN wd (Q i).st (Q i).n) 0 else (s1.pg Z.toNat).cell c } := by rw [eS]; show upd _ Z.toNat _ Z.toNat = _; rw [upd_same]
  have pgO : ∀ x, x ≠ Z.toNat → s2.pg x = s1.pg x := fun x hx => by rw [eS]; show upd _ Z.toNat _ x = _; rw [upd_other _ _ _ _ hx]
  have how : ∀ x, (s2.pg x).ow = (s1.pg x).ow ∧ (s2.pg x).tag = (s1.pg x).tag := fun x => by
    by_cases e : x = Z.toNat
    · rw [e, pgZ]; exact ⟨rfl, rfl⟩
    · rw [pgO x e]; exact ⟨rfl, rfl⟩
  have hsn : s2.n = N := by rw [eS]; exact hr.n
  refine ⟨⟨hG, h.few, h.tne, hsn, by rw [eS]; exact hr.aside, ?_, fun j hj => ?_, fun j hj => ?_, fun j hj z hz => ?_, fun x hx => ?_, fun x hx ho => ?_⟩, ?_, fun R hR j hj k hk1 hk2 c hc => ?_⟩
  · intro a b
    by_cases e : a = Z.toNat
    · rw [e, pgZ]
      show (Lit.int .i64 (if _ then zs.getD _ 0 else _)).wf = true
      split
      · rename_i hb
        exact hw _ (getD_mem (by omega))
      · exact hr.wf _ _
    · rw [pgO a e]; exact hr.wf _ _
  · by_cases e : j = i
    · subst e; rw [upd_same]; exact hok
    · rw [upd_other _ _ _ _ e]; exact h.ok j hj
  · by_cases e : j = i
    · subst e; rw [upd_same, eQ]; exact hr.nd
    · rw [upd_other _ _ _ _ e]; exact h.nd j hj
  · by_cases e : j = i
    · subst e; rw [upd_same, eQ] at hz; exact hr.inn z hz
    · rw [upd_other _ _ _ _ e] at hz; exact h.inn j hj z hz
  · have h2 := hr.ow x hx
    have h3 := sumC_upd Q K i x (appQ wd t s (Q i) zs) hi
    have h4 : (appQ wd t s (Q i) zs).P = P1 := by rw [eQ]
    rw [h4] at h3
    rw [(how x).1]
    omega
  · rw [(how x).1] at ho
    rw [(how x).2]
    exact hr.tag x hx ho
  · rw [freeTo_congr s2.pg s1.pg N (fun x _ => (how x).1)]
    exact hr.free
  · by_cases e : j = i
    · subst e
      rw [upd_same, eQ] at hk1 hk2 ⊢
      simp only at hk1 hk2 ⊢
      by_cases ek : k = (Q j).n
      · subst ek
        rw [if_pos ⟨trivial, rfl⟩, hr.zi, pgZ]
        show (if _ then zs.getD _ 0 else _) = _
        rw [if_pos ⟨by omega, by omega⟩, Nat.add_sub_cancel_left]
      · rw [if_neg (fun z => ek z.2)]
        have hkn : k < (Q j).n := by omega
        have hidx := page_lt hq hk1 hkn
        have hcell := cell_lt hq.w0 hq.w1 (Q j).st k c hc
        have hI := hr.cellI _ hidx _ hcell
        have hold := hR j hj k hk1 hkn c hc
        have ep : pageZ wd P1 (Q j).st k = P1.getD ((k - (Q j).st) / (32 / wd)) 0 := rfl
        have ep' : pageZ wd (Q j).P (Q j).st k = (Q j).P.getD ((k - (Q j).st) / (32 / wd)) 0 := rfl
        rw [ep'] at hold
        rw [ep]
        by_cases ez : (P1.getD ((k - (Q j).st) / (32 / wd)) 0).toNat = Z.toNat
        · have hm := getD_mem (P := P1) (i := (k - (Q j).st) / (32 / wd)) (by omega)
          have hz := hr.inn _ hm
          have hzi := hr.zi
          have ei : (k - (Q j).st) / (32 / wd) = ((Q j).n - (Q j).st) / (32 / wd) := getD_inj hr.nd (by omega) hlt (by rw [show P1.getD (((Q j).n - (Q j).st) / (32 / wd)) 0 = Z from hzi]; omega)
          rw [← hold, ← hI, ez, pgZ]
          show (if _ then _ else _) = _
          rw [if_neg]
          exact rows_apart (C := 0) (by omega) (by omega) ei hc
        · rw [pgO _ ez, hI]
          exact hold
    · rw [upd_other _ _ _ _ e] at hk1 hk2 ⊢
      show _ = (if j = i ∧ k = (Q i).n then zs else R j k).getD c 0
      rw [if_neg (fun z => e z.1)]
      have hm := pageZ_mem (h.ok j hj) hk1 hk2
      obtain ⟨p0, p1⟩ := h.inn j hj _ hm
      have ez : (pageZ wd (Q j).P (Q j).st k).toNat ≠ Z.toNat := fun e' => hr.oth j hj e (by rw [show Z = pageZ wd (Q j).P (Q j).st k by omega]; exact hm)
      rw [pgO _ ez, hr.cellO j hj e _ hm]
      exact hR j hj k hk1 hk2 c hc
theorem Many.app_no {N : Nat} {t : ByteArray} {wd : Nat} {s : Pl} {K : Nat} {Q : Nat → Sq} (h : Many N t wd s K Q) {i : Nat} (zs : List Int) (h0 : appE wd t s (Q i) zs ≠ 0) : appS wd t s (Q i) zs = s ∧ upd Q i (appQ wd t s (Q i) zs) = Q := by
  unfold appS appQ
  rw [if_neg h0, if_neg h0]
  exact ⟨rfl, upd_self _ _⟩

theorem freeTo_iff (p q : Nat → Pg) (n : Nat) (h : ∀ x, x < n → ((p x).ow = 0 ↔ (q x).ow = 0)) : freeTo p n = freeTo q n := by
  induction n with
  | zero => rfl
  | succ n ih =>
    simp only [freeTo]
    rw [ih (fun x hx => h x (by omega))]
    by_cases e : (p n).ow = 0
    · rw [if_pos e, if_pos ((h n (by omega)).1 e)]
    · rw [if_neg e, if_neg (fun z => e ((h n (by omega)).2 z))]
theorem Many.fork {N : Nat} {t : ByteArray} {wd : Nat} {s : Pl} {K : Nat} {Q : Nat → Sq} (h : Many N t wd s K Q) {i : Nat} (hi : i < K) (hK : K < 6) : Many N t wd (forkS s (Q i)) (K + 1) (upd Q K (Q i)) ∧ freeTo (forkS s (Q i)).pg N = freeTo s.pg N ∧ ∀ R, RowsAt wd s K Q R → RowsAt wd (forkS s (Q i)) (K + 1) (upd Q K (Q i)) (upd R K (R i)) := by
  have hnd := h.nd i hi
  obtain ⟨a1, a2, a3, a4⟩ := steps_all shPg (Q i).P s hnd (h.mem hi)
  rw [← shS_step] at a1 a2 a3 a4
  have eS : forkS s (Q i) = (Q i).P.foldl shS s := rfl
  have hG := h.good.shares (Q i).P
  rw [← eS] at a1 a2 a3 a4 hG
  obtain ⟨s', es⟩ : ∃ s', forkS s (Q i) = s' := ⟨_, rfl⟩
  rw [es] at a1 a2 a3 a4 hG ⊢
  have hcell : ∀ x : Nat, (s'.pg x).cell = (s.pg x).cell ∧ (s'.pg x).tag = (s.pg x).tag ∧ (s'.pg x).ow = (s.pg x).ow + ((Q i).P.count (x : Int) : Int) := fun x => by
    by_cases e : (x : Int) ∈ (Q i).P
    · rw [a3 x e, count_same hnd e]; exact ⟨rfl, rfl, rfl⟩
    · rw [a4 x e, List.count_eq_zero_of_not_mem e]; exact ⟨rfl, rfl, by simp⟩
  have hnd' : ∀ j, j < K + 1 → (upd Q K (Q i) j).P.Nodup := fun j hj => by
    by_cases e : j = K
    · subst e; rw [upd_same]; exact hnd
    · rw [upd_other _ _ _ _ e]; exact h.nd j (by omega)
  have how : ∀ x, x < N → (s'.pg x).ow = (sumC (upd Q K (Q i)) (K + 1) x : Int) := fun x hx => by
    rw [(hcell x).2.2, h.ow x hx, sumC_snoc]
    omega
  have hsn : s'.n = N := a1.trans h.n
  refine ⟨⟨hG.bound (fun x hx => ?_), by omega, h.tne, hsn, a2.trans h.aside, fun a b => by rw [(hcell a).1]; exact h.wf a b, fun j hj => ?_, hnd', fun j hj z hz => ?_, how, fun x hx ho => ?_⟩, freeTo_iff _ _ _ (fun x hx => ?_), fun R hR j hj k hk1 hk2 c hc => ?_⟩
  · rw [how x (by omega)]
    have := sumC_le (upd Q K (Q i)) (K + 1) x hnd'
    omega
  · by_cases e : j = K
    · subst e; rw [upd_same]; exact h.ok i hi
    · rw [upd_other _ _ _ _ e]; exact h.ok j (by omega)
  · by_cases e : j = K
    · subst e; rw [upd_same] at hz; exact h.inn i hi z hz
    · rw [upd_other _ _ _ _ e] at hz; exact h.inn j (by omega) z hz
  · rw [(hcell x).2.1]
    by_cases e : (s.pg x).ow = 0
    · rw [(hcell x).2.2, e] at ho
      have h1 : 0 < (Q i).P.count (x : Int) := by omega
      have h2 := (h.used hi (List.count_pos_iff.1 h1)).2
      rw [Int.toNat_natCast] at h2
      omega
    · exact h.tag x hx e
  · rw [(hcell x).2.2]
    have h0 := h.good.ow0 x (by rw [h.n]; exact hx)
    constructor
    · intro e; omega
    · intro e
      by_cases hc : (x : Int) ∈ (Q i).P
      · have h2 := (h.used hi hc).2
        rw [Int.toNat_natCast] at h2
        omega
      · rw [List.count_eq_zero_of_not_mem hc]; omega
  · rw [(hcell _).1]
    by_cases e : j = K
    · subst e
      rw [upd_same] at hk1 hk2 ⊢
      rw [upd_same]
      exact hR i hi k hk1 hk2 c hc
    · rw [upd_other _ _ _ _ e] at hk1 hk2 ⊢
      rw [upd_other _ _ _ _ e]
      exact hR j (by omega) k hk1 hk2 c hc

/-- some of a sequence's pages are let go of -/
theorem Many.drops {N : Nat} {t : ByteArray} {wd : Nat} {s : Pl} {K : Nat} {Q : Nat → Sq} (h : Many N t wd s K Q) {i : Nat} (hi : i < K) (q : Sq) (T : List Int) (hsub : T.Sublist (Q i).P) (hqs : q.P.Sublist (Q i).P) (hc : ∀ x : Int, q.P.count x + T.count x = (Q i).P.count x) (hq : SqOk wd q)
    (hrow : ∀ k, q.st ≤ k → k < q.n → (Q i).st ≤ k ∧ k < (Q i).n ∧ pageZ wd q.P q.st k = pageZ wd (Q i).P (Q i).st k ∧ cellN wd q.st k = cellN wd (Q i).st k) :
    Many N t wd (T.foldl drS s) K (upd Q i q) ∧ ∀ R, RowsAt wd s K Q R → RowsAt wd (T.foldl drS s) K (upd Q i q) R := by
  have hnd : T.Nodup := (h.nd i hi).sublist hsub
  obtain ⟨a1, a2, a3, a4⟩ := steps_all dropPg T s hnd (fun z hz => h.mem hi z (hsub.mem hz))
  rw [← drS_step] at a1 a2 a3 a4
  have hG := h.good.drops T
  obtain ⟨s', es⟩ : ∃ s', T.foldl drS s = s' := ⟨_, rfl⟩
  rw [es] at a1 a2 a3 a4 hG ⊢
  have hcell : ∀ x : Nat, (s'.pg x).cell = (s.pg x).cell ∧ (s'.pg x).ow = (s.pg x).ow - (T.count (x : Int) : Int) ∧ ((s'.pg x).ow ≠ 0 → (s'.pg x).tag = (s.pg x).tag ∧ (s.pg x).ow ≠ 0) := fun x => by
    by_cases e : (x : Int) ∈ T
    · have h1 := (h.used hi (hsub.mem e)).2
      rw [Int.toNat_natCast] at h1
      rw [a3 x e, count_same hnd e]
      unfold dropPg
      split
      · rename_i e0
        exact ⟨rfl, by show (0 : Int) = _; omega, fun z => absurd rfl z⟩
      · exact ⟨rfl, by show (s.pg x).ow - 1 = _; omega, fun _ => ⟨rfl, by omega⟩⟩
    · rw [a4 x e, List.count_eq_zero_of_not_mem e]
      exact ⟨rfl, by simp, fun z => ⟨rfl, z⟩⟩
  refine ⟨⟨hG, h.few, h.tne, a1.trans h.n, a2.trans h.aside, fun a b => by rw [(hcell a).1]; exact h.wf a b, fun j hj => ?_, fun j hj => ?_, fun j hj z hz => ?_, fun x hx => ?_, fun x hx ho => ?_⟩, fun R hR j hj k hk1 hk2 c hcw => ?_⟩
  · by_cases e : j = i
    · subst e; rw [upd_same]; exact hq
    · rw [upd_other _ _ _ _ e]; exact h.ok j hj
  · by_cases e : j = i
    · subst e; rw [upd_same]; exact (h.nd j hj).sublist hqs
    · rw [upd_other _ _ _ _ e]; exact h.nd j hj
  · by_cases e : j = i
    · subst e; rw [upd_same] at hz; exact h.inn j hj z (hqs.mem hz)
    · rw [upd_other _ _ _ _ e] at hz; exact h.inn j hj z hz
  · have h1 := sumC_upd Q K i x q hi
    have h2 := hc (x : Int)
    have h3 := h.ow x hx
    rw [(hcell x).2.1]
    omega
  · obtain ⟨e1, e2⟩ := (hcell x).2.2 ho
    rw [e1]
    exact h.tag x hx e2
  · rw [(hcell _).1]
    by_cases e : j = i
    · subst e
      rw [upd_same] at hk1 hk2 ⊢
      obtain ⟨r1, r2, r3, r4⟩ := hrow k hk1 hk2
      rw [r3, r4]
      exact hR j hj k r1 r2 c hcw
    · rw [upd_other _ _ _ _ e] at hk1 hk2 ⊢
      exact hR j hj k hk1 hk2 c hcw

theorem Many.keep {N : Nat} {t : ByteArray} {wd : Nat} {s : Pl} {K : Nat} {Q : Nat → Sq} (h : Many N t wd s K Q) {i : Nat} (hi : i < K) (k : Int) : Many N t wd (keepS wd s (Q i) k) K (upd Q i (keepQ wd (Q i) k)) ∧ ∀ R, RowsAt wd s K Q R → RowsAt wd (keepS wd s (Q i) k) K (upd Q i (keepQ wd (Q i) k)) R := by
  have hq := h.ok i hi
  refine h.drops hi (keepQ wd (Q i) k) ((Q i).P.take (keepN wd (Q i) k)) (List.take_sublist _ _) (List.drop_sublist _ _) (fun x => ?_) (hq.keep k) (fun j h1 h2 => ?_)
  · show ((Q i).P.drop _).count x + _ = _
    rw [Nat.add_comm, ← List.count_append, List.take_append_drop]
  · have hr := hq.rr
    have h1' : (Q i).st + keepN wd (Q i) k * (32 / wd) ≤ j := h1
    have h2' : j < (Q i).n := h2
    obtain ⟨d, hd⟩ : ∃ d, j - ((Q i).st + keepN wd (Q i) k * (32 / wd)) = d := ⟨_, rfl⟩
    have e : j - (Q i).st = d + keepN wd (Q i) k * (32 / wd) := by omega
    refine ⟨by omega, h2', ?_, ?_⟩
    · show ((Q i).P.drop _).getD ((j - ((Q i).st + _)) / _) 0 = (Q i).P.getD ((j - (Q i).st) / _) 0
      rw [hd, e, Nat.add_mul_div_right _ _ (by omega)]
      simp [List.getD, Nat.add_comm]
    · show (j - ((Q i).st + _)) % _ * _ = (j - (Q i).st) % _ * _
      rw [hd, e, Nat.add_mul_mod_self_right]
theorem Many.end_ {N : Nat} {t : ByteArray} {wd : Nat} {s : Pl} {K : Nat} {Q : Nat → Sq} (h : Many N t wd s K Q) {i : Nat} (hi : i < K) : Many N t wd (endS s (Q i)) K (upd Q i (endQ (Q i))) ∧ ∀ R, RowsAt wd s K Q R → RowsAt wd (endS s (Q i)) K (upd Q i (endQ (Q i))) R :=
  h.drops hi (endQ (Q i)) (Q i).P (List.Sublist.refl _) (List.nil_sublist _) (fun x => by show (0 : Nat) + _ = _; omega) (h.ok i hi).end_ (fun k h1 h2 => by
    have h1' : (Q i).n ≤ k := h1
    have h2' : k < (Q i).n := h2
    omega)

/-- pages that are used are counted by their tag -/
theorem cnt_free (p : Nat → Pg) (t : ByteArray) (n : Nat) (h : ∀ x, x < n → 0 ≤ (p x).ow ∧ ((p x).ow ≠ 0 → (p x).tag.toList = t.toList)) : cntTo p t n + freeTo p n = n := by
  induction n with
  | zero => rfl
  | succ n ih =>
    have h1 := ih (fun x hx => h x (by omega))
    obtain ⟨h2, h3⟩ := h n (by omega)
    simp only [cntTo, freeTo]
    by_cases e : (p n).ow = 0
    · rw [if_pos e, if_neg (fun z => by omega)]; omega
    · rw [if_neg e, if_pos ⟨by omega, h3 e⟩]; omega
theorem Many.count {N : Nat} {t : ByteArray} {wd : Nat} {s : Pl} {K : Nat} {Q : Nat → Sq} (h : Many N t wd s K Q) : cntTo s.pg t N + freeTo s.pg N = N := cnt_free s.pg t N (fun x hx => ⟨h.good.ow0 x (by rw [h.n]; exact hx), h.tag x hx⟩)
theorem Many.empty {N : Nat} {t : ByteArray} {wd : Nat} {s : Pl} {K : Nat} {Q : Nat → Sq} (h : Many N t wd s K Q) (he : ∀ i, i < K → (Q i).P = []) : freeTo s.pg N = N ∧ cntTo s.pg t N = 0 := by
  have h1 : ∀ x, x < N → (s.pg x).ow = 0 := fun x hx => by rw [h.ow x hx, sumC_zero Q K x he]; rfl
  have h2 : ∀ n, n ≤ N → freeTo s.pg n = n := by
    intro n
    induction n with
    | zero => intro _; rfl
    | succ n ih => intro hn; simp only [freeTo]; rw [ih (by omega), if_pos (h1 n (by omega))]
  have h3 := h.count
  have h4 := h2 N (Nat.le_refl _)
  exact ⟨h4, by omega⟩
/-- a new pool with one sequence without rows -/
theorem many_new (N : Nat) (t : ByteArray) (wd : Nat) (n0 : 1 ≤ N) (n1 : N ≤ 256) (ht : ¬ t.toList = []) (w0 : 1 ≤ wd) (w1 : wd ≤ 32) : Many N t wd (newPl N) 1 (fun _ => ⟨[], 0, 0⟩) :=
  ⟨good_new N 6 n0 n1, by decide, ht, rfl, rfl, fun _ _ => wf_nought _, fun i hi => ⟨w0, w1, Nat.le_refl _, by decide, by simp, by show 0 * _ < 0 - 0 + _; rw [Nat.zero_mul]; have := rr_pos w0 w1; omega⟩, fun i hi => by simp, fun i hi z hz => by simp at hz, fun x hx => by simp [newPl, sumC], fun x hx ho => absurd rfl ho⟩
/-- what a row that is there reads as -/
theorem RowsAt.row {N : Nat} {t : ByteArray} {wd : Nat} {s : Pl} {K : Nat} {Q : Nat → Sq} (h : Many N t wd s K Q) {R : Nat → Nat → List Int} (hR : RowsAt wd s K Q R) {i : Nat} (hi : i < K) {k : Nat} (h1 : (Q i).st ≤ k) (h2 : k < (Q i).n) (hl : (R i k).length = wd) : rowE (Q i) k = 0 ∧ rowV wd s (Q i) k = R i k := by
  have hq := h.ok i hi
  have e : rowE (Q i) k = 0 := by unfold rowE; rw [if_neg (by omega)]
  refine ⟨e, ?_⟩
  unfold rowV
  rw [if_pos e, Int.toNat_natCast]
  have hu := h.mem hi _ (pageZ_mem hq h1 h2)
  apply List.ext_getElem
  · simp [hl]
  · intro c c1 c2
    have hc : c < wd := by simpa using c1
    have hcl := cell_lt hq.w0 hq.w1 (Q i).st k c hc
    simp only [List.getElem_map, List.getElem_range]
    unfold getV
    rw [if_pos (get_ok hu (by omega) (by omega)), show ((cellN wd (Q i).st k : Nat) : Int) + (c : Int) = ((cellN wd (Q i).st k + c : Nat) : Int) by omega, Int.toNat_natCast, hR i hi k h1 h2 c hc]
    simp [List.getD, c2]
/-- one sequence alone: its pages are those that are used -/
theorem Many.solo {N : Nat} {t : ByteArray} {wd : Nat} {s : Pl} {K : Nat} {Q : Nat → Sq} (h : Many N t wd s K Q) (hK : K = 1) : needB wd s (Q 0) = !(fitB wd (Q 0)) := by
  subst hK
  unfold needB
  cases e : fitB wd (Q 0) with
  | false => rfl
  | true =>
    have hl := fit_len (h.ok 0 (by decide)) e
    have hm := lastZ_mem hl
    obtain ⟨u1, u2⟩ := h.used (by decide) hm
    obtain ⟨z0, z1⟩ := h.inn 0 (by decide) _ hm
    have h1 := h.ow (lastZ (Q 0).P).toNat (by omega)
    have h2 := sumC_le Q 1 (lastZ (Q 0).P).toNat h.nd
    have e1 : decide (owZ s (lastZ (Q 0).P) ≤ 1) = true := by
      unfold owZ
      rw [if_pos u1, decide_eq_true_eq]
      omega
    rw [e1]
    rfl

end Go.Proofs.Ytgjjeggopeppfaa

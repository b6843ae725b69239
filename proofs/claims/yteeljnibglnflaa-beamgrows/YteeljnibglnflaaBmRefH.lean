/- A beam's candidates ahead of their being gathered. What the document answers at last. The best beams by the document: a contract of the call. The document's Grow whatever comes; single operations. -/
import Derived.Test.YteeljnibglnflaaRows
import Derived.Test.YteeljnibglnflaaView
import Derived.Test.YteeljnibglnflaaOwn
import Derived.Test.YteeljnibglnflaaWhere
import Derived.Test.YteeljnibglnflaaBmZ
import Derived.Test.YteeljnibglnflaaBmAt
import Derived.Test.YteeljnibglnflaaBmWhole
import Derived.Test.YteeljnibglnflaaBmRefA
import Derived.Test.YteeljnibglnflaaSteps
import Derived.Test.YteeljnibglnflaaRefTop
import Derived.Test.YteeljnibglnflaaBmGI
import Derived.Test.YteeljnibglnflaaBmOrdZ
import Derived.Test.YteeljnibglnflaaBmRefZ
import Derived.Test.YteeljnibglnflaaSat
import Derived.Test.YteeljnibglnflaaRanks
import Derived.Test.YteeljnibglnflaaGMean
import Derived.Test.YteeljnibglnflaaBmRun
import Derived.Test.YteeljnibglnflaaBmCand
import Derived.Test.YteeljnibglnflaaBmGrow
import Derived.Test.YteeljnibglnflaaBmRefN
import Derived.Test.YteeljnibglnflaaBmRefE
import Derived.WalkKit
import Derived.ProofKit
import Derived.OpenShut
import Derived.WalkLawsBesides
import Derived.Below
import Derived.Deep.QuietTactic
import Derived.BigQuiet
import Derived.Laws.AppendOwnNone
import Derived.Laws.OwnMore
import Derived.Maps.AppendAt
import Derived.Deep.RegionWith
import Derived.Deep.Cut
import Derived.Deep.CutRange
import Derived.Deep.CutBlock
namespace Go.Proofs.Yteeljnibglnflaa
set_option maxRecDepth 20000
open Go.ChangeShapes Go.WideShapes Go.ChangeAt Go.RowKit
set_option linter.unusedVariables false
set_option linter.unusedSimpArgs false

/-- what stands between a beam's candidates and their being gathered -/
def Pk (w : World) (LB : Nat → Bm) (F : Nat → Int) (Kt : Nat → Nat) (k : Nat) (v1 v2 v3 : Value) (A' : Nat → Option Addr) (C' : Nat → Nat) (W : World) (v22 : Value) : Prop :=
  ∃ (M0 N : Nat) (xc : Addr) (cc : Nat) (Ac : Nat → Option Addr) (Cc : Nat → Nat), v22 = .slice (some xc) M0 cc ∧ M0 ≤ 1000 ∧ BmAt W (some xc) M0 Ac Cc (fun t => LB (Kt k + t)) ∧ N ≤ xc.block ∧ (∀ r, r < M0 → 0 < (LB (Kt k + r)).t.length → ∀ x, Ac r = some x → N ≤ x.block ∨ Reads .i64 w (Ac r) (LB (Kt k + r)).t.length (LB (Kt k + r)).t) ∧ (∀ t, t < M0 → F (Kt k + t) = (k : Int)) ∧ (∀ t, t < M0 → Kt k + t ≤ 1000000) ∧ Kt k + M0 = Kt (k + 1) ∧ RA w W v1 v2 v3 (Kt k) (Kt k) (Kt k) A' C' LB F ∧ Win W N W v1 v2 v3

theorem Win.start {w W : World} {va vf vs : Value} {k1 k2 k3 : Nat} {A : Nat → Option Addr} {C : Nat → Nat} {LB : Nat → Bm} {F : Nat → Int} (h : RA w W va vf vs k1 k2 k3 A C LB F) (W' : World) {N : Nat} (hN : W.heap.size ≤ N) : Win W' N W' va vf vs :=
  ⟨Nat.le_refl _, fun _ _ _ h => h, fun g hg => .inl (by have := (h.o1.own.lt g hg).2; omega), fun g hg => .inl (by have := (h.o2.lt g hg).2; omega), fun g hg => .inl (by have := (h.o3.lt g hg).2; omega)⟩

theorem Pk.done {w wr : World} {LB : Nat → Bm} {F : Nat → Int} {Kt : Nat → Nat} {k : Nat} {v1 v2 v3 : Value} {A' : Nat → Option Addr} {C' : Nat → Nat} (h : RA w wr v1 v2 v3 (Kt k) (Kt k) (Kt k) A' C' LB F) {a : Option Addr} {c : Nat} {B : Bm} (hr : Reads .i64 w a B.t.length B.t) (hn : a = none → c = 0) (hw : (Lit.int .i64 B.s).wf = true) (hL : LB (Kt k + 0) = B) (hF : F (Kt k + 0) = (k : Int)) (hK : Kt (k + 1) = Kt k + 1) (hb : Kt k ≤ 1000000) :
    Pk w LB F Kt k v1 v2 v3 A' C' (wr.alloc (.cells #[.slice a B.t.length c, .int .i64 B.s, .bool B.f] 42)) (.slice (some ⟨wr.heap.size, 0, none⟩) 1 1) := by
  have b1 := below_new (Below.refl wr.heap.size wr) (.cells #[.slice a B.t.length c, .int .i64 B.s, .bool B.f] 42)
  have e0 : ∀ r, r < 1 → LB (Kt k + r) = B := fun r hr => by obtain rfl : r = 0 := by omega
                                                             exact hL
  have fF : ∀ t, t < 1 → F (Kt k + t) = (k : Int) := fun t ht => by
    obtain rfl : t = 0 := by omega
    exact hF
  refine ⟨1, wr.heap.size, ⟨wr.heap.size, 0, none⟩, 1, fun _ => a, fun _ => c, rfl, by decide, ?_, Nat.le_refl _, fun r hr' _ x hx => .inr (by rw [e0 r hr']; exact hr), fF, fun t ht => by omega, hK.symm, h.below b1, Win.start h _ (Nat.le_refl _)⟩
  refine (⟨by decide, fun _ => ⟨_, rfl⟩, fun x hx r hr' => ?_, fun r _ => (hr.below h.bel).below b1, fun r _ => hn, fun r _ => hw⟩ : BmAt _ (some ⟨wr.heap.size, 0, none⟩) 1 (fun _ => a) (fun _ => c) (fun _ => B)).congr (fun _ _ => rfl) (fun _ _ => rfl) (fun r hr' => (e0 r hr').symm)
  obtain rfl := Option.some.inj hx
  obtain rfl : r = 0 := by omega
  rw [Addr.add_add, Addr.add_add]
  exact ⟨lit_new wr [.slice a B.t.length c, .int .i64 B.s, .bool B.f] 42 0 _ rfl, lit_new wr [.slice a B.t.length c, .int .i64 B.s, .bool B.f] 42 1 _ rfl, lit_new wr [.slice a B.t.length c, .int .i64 B.s, .bool B.f] 42 2 _ rfl⟩

theorem Pk.live {w wr W W2 : World} {LB : Nat → Bm} {F : Nat → Int} {Kt : Nat → Nat} {k : Nat} {v1 v2 v3 : Value} {A' : Nat → Option Addr} {C' : Nat → Nat} (h : RA w wr v1 v2 v3 (Kt k) (Kt k) (Kt k) A' C' LB F) (hb1 : Below wr.heap.size wr W) (hb2 : Below W.heap.size W W2) {a : Option Addr} {rn c : Nat} {Ac : Nat → Option Addr} {Cc : Nat → Nat} {M : Nat → Bm} (hB : BmAt W2 a rn Ac Cc M) (h0 : 0 < rn) (hr : rn ≤ 1000) (ha : ∀ x, a = some x → W.heap.size ≤ x.block) (hA : ∀ r x, r < rn → Ac r = some x → W.heap.size ≤ x.block)
    (hL : ∀ t, t < rn → LB (Kt k + t) = M t) (hF : ∀ t, t < rn → F (Kt k + t) = (k : Int)) (hK : Kt (k + 1) = Kt k + rn) (hb : Kt (k + 1) ≤ 1000000) : Pk w LB F Kt k v1 v2 v3 A' C' W2 (.slice a rn c) := by
  obtain ⟨x, rfl⟩ := hB.some_ h0
  exact ⟨rn, W.heap.size, x, c, Ac, Cc, rfl, hr, hB.congr (fun _ _ => rfl) (fun _ _ => rfl) (fun r hr' => (hL r hr').symm), ha x rfl, fun r hr' _ y hy => .inl (hA r y hr' hy), hF, fun t ht => by omega, hK.symm, (h.below hb1).below hb2, Win.start h _ hb1.size⟩

end Go.Proofs.Yteeljnibglnflaa

namespace Go.Proofs.Yteeljnibglnflaa
set_option maxRecDepth 20000
open Go.ChangeShapes Go.WideShapes Go.ChangeAt Go.RowKit
set_option linter.unusedVariables false
set_option linter.unusedSimpArgs false

theorem ref_ans {w W : World} {vo vp vs : Value} {Q k3 : Nat} {A2 : Nat → Option Addr} {C2 : Nat → Nat} {LO : Nat → Bm} {FO : Nat → Int} (h : RA w W vo vp vs Q Q k3 A2 C2 LO FO) {L : Nat → Bm} {n : Nat} {R : Nat → List Int} {m : Nat} {width len stop : Int} {G : List Cd} (hE : growE L n R m width = 0) (hG : growL L n R m width len stop = G) (hl : G.length = Q) (hLO : ∀ r, r < Q → LO r = growB L G r) (hFO : ∀ r, r < Q → FO r = ((G.getD r c0).p : Int)) (hp : ∀ r, r < Q → (G.getD r c0).p ≤ 1000) :
    ∃ a c b d, vo = .slice a Q c ∧ vp = .slice b Q d ∧ RefAns W (.returned (.tuple #[.slice a Q c, .slice b Q d, .int .i64 0])) L n R m width len stop := by
  obtain ⟨a, c, rfl, hB, -, -⟩ := h.o1.at_
  obtain ⟨b, d, rfl, hR⟩ := own_reads (k := .i64) (zs := growP G) h.o2 (by simp [growP, hl]) (fun z hz => by
    obtain ⟨x, hx, rfl⟩ := List.mem_map.1 hz
    obtain ⟨i, hi, rfl⟩ := List.getElem_of_mem hx
    have := hp i (by omega)
    rw [show G.getD i c0 = G[i] by simp [List.getD, hi]] at this
    exact WalkArith.wf_i64 ⟨by omega, by omega⟩) (fun j hj => by rw [gath_at _ _ _ _ hj, hFO j hj, growP_at G (by omega)])
  refine ⟨a, c, b, d, rfl, rfl, ?_⟩
  unfold RefAns
  rw [hG, hE, hl]
  exact ⟨a, b, c, d, A2, C2, rfl, hB.congr (fun _ _ => rfl) (fun _ _ => rfl) hLO, hR⟩

/-- a box's first cell written over -/
theorem box_set {wr W5 w7 : World} {AT : Option Addr} {TN CT : Nat} {SV : Int} {FV : Bool} (e5 : wr.alloc (.cells #[.slice AT TN CT, .int .i64 SV, .bool FV] 42) = W5) (hb : Below W5.heap.size W5 w7) {v2 : Value} {TT : List Int} (hTT : TT.length = TN) (hw : ∀ z ∈ TT, (Lit.int .i64 z).wf = true) (ho : w7.ownsRow W5.heap.size 3 1 v2 TN (TT.map (Value.int .i64))) :
    ∃ a2 c2, v2 = .slice a2 TN c2 ∧ w7.cell? ⟨wr.heap.size, 0, none⟩ = some (.slice AT TN CT) ∧ w7.frozen? ⟨wr.heap.size, 0, none⟩ = false ∧ ∃ W8, w7.setCell ⟨wr.heap.size, 0, none⟩ (.slice a2 TN c2) = W8 ∧ W8.cell? ⟨wr.heap.size, 0, none⟩ = some (.slice a2 TN c2) ∧ W8.cell? ⟨wr.heap.size, 1, none⟩ = some (.int .i64 SV) ∧ W8.cell? ⟨wr.heap.size, 2, none⟩ = some (.bool FV) ∧ (Below wr.heap.size wr W8 ∧ Reads .i64 W8 a2 TN TT ∧ (a2 = none → c2 = 0) ∧ ∀ x, a2 = some x → wr.heap.size ≤ x.block) := by
  have s5 : W5.heap.size = wr.heap.size + 1 := by rw [← e5]; simp
  have b5 : Below wr.heap.size wr W5 := by rw [← e5]; exact below_new (Below.refl _ _) _
  have hp : w7.heap[wr.heap.size]? = some (.cells #[.slice AT TN CT, .int .i64 SV, .bool FV] 42 (0, 0)) := by
    refine (hb.block wr.heap.size (by omega)).trans ?_
    rw [← e5]
    exact heap_alloc_new wr _
  obtain ⟨a2, c2, rfl, rd⟩ := own_reads (k := .i64) (zs := TT) ho hTT hw (fun j hj => copy_at .i64 TT j (by omega))
  have hge : ∀ x, a2 = some x → W5.heap.size ≤ x.block := fun x hx => by
    subst hx
    exact (ho.lt x.block rfl).1
  have k0 : w7.cell? ⟨wr.heap.size, 0, none⟩ = some (.slice AT TN CT) := by unfold World.cell?; rw [hp]; rfl
  have k1 : w7.cell? ⟨wr.heap.size, 1, none⟩ = some (.int .i64 SV) := by unfold World.cell?; rw [hp]; rfl
  have k2 : w7.cell? ⟨wr.heap.size, 2, none⟩ = some (.bool FV) := by unfold World.cell?; rw [hp]; rfl
  refine ⟨a2, c2, rfl, k0, by unfold World.frozen?; rw [hp]; rfl, _, rfl, ?_, ?_, ?_, ?_, ?_, own_none ho, fun x hx => by have := hge x hx; omega⟩
  · exact World.cell?_setCell_same _ _ _ k0
  · rw [World.cell?_setCell_other _ _ _ _ (fun e => by have := congrArg Addr.off e; simp at this)]
    exact k1
  · rw [World.cell?_setCell_other _ _ _ _ (fun e => by have := congrArg Addr.off e; simp at this)]
    exact k2
  · exact (below_then b5 hb).setCell (by show wr.heap.size ≤ wr.heap.size; exact Nat.le_refl _) _
  · exact reads_set rd _ _ (fun x hx => by have := hge x hx; show x.block ≠ wr.heap.size; omega)

end Go.Proofs.Yteeljnibglnflaa

namespace Go.Proofs.Yteeljnibglnflaa
set_option maxRecDepth 20000
open Go.ChangeShapes Go.WideShapes Go.ChangeAt Go.RowKit
set_option linter.unusedVariables false
set_option linter.unusedSimpArgs false

set_option maxHeartbeats 8000000 in
theorem refGrow_yes (a0 : Option Addr) (n ca : Nat) (A : Nat → Option Addr) (C : Nat → Nat) (L : Nat → Bm) (a1 : Option Addr) (m cb : Nat) (A1 : Nat → Option Addr) (C1 : Nat → Nat) (R : Nat → List Int) (width len stop : Int) (w : World)
    (h0 : BmAt w a0 n A C L) (h1 : Grid w a1 m A1 C1 R) (hE : growE L n R m width = 0) (hR : ∀ r, r < m → (R r).length ≤ 1000) (hn : n ≤ 1000) (hT : ∀ r, r < n → (L r).t.length ≤ 1000000) :
    Calls Try.prog 11 #[.slice a0 n ca, .slice a1 m cb, .int .i64 width, .int .i64 len, .int .i64 stop] w fun e w' => RefAns w' e L n R m width len stop ∧ Below w.heap.size w w' := by
  obtain ⟨hw1, hw2, hn0, hmm, hrw⟩ := growE_ok hE
  have hmx := h0.max
  have hm1 := h1.max
  have H0 : Hid (BmAt w a0 n A C L) := h0
  have H1 : Hid (Grid w a1 m A1 C1 R) := h1
  have HT : Hid (∀ r, r < n → (L r).t.length ≤ 1000000) := hT
  have HM : Hid (m = liveTo L n) := hmm
  have HR5 : Hid (∀ r, r < m → 0 < (R r).length ∧ (R r).length ≤ 1000) := show ∀ r, _ → _ from fun r hr => ⟨hrw r hr, hR r hr⟩
  have hbnd : ∀ i, i ≤ n → (candTo L R len stop i).length ≤ 1000000 := fun i hi => by
    have := candTo_count L R len stop i 1000 (fun j hj hf => hR _ (by rw [hmm]; exact liveTo_live L (by omega) hf)) (by decide)
    omega
  obtain ⟨Kt, eKt⟩ : ∃ f : Nat → Nat, (fun i => (candTo L R len stop i).length) = f := ⟨_, rfl⟩
  have eK : ∀ i, (candTo L R len stop i).length = Kt i := fun i => by rw [← eKt]
  obtain ⟨CS, eCS⟩ : ∃ cs, candTo L R len stop n = cs := ⟨_, rfl⟩
  obtain ⟨LB, eLB⟩ : ∃ f : Nat → Bm, (fun t => wholeZ L (CS.getD t c0)) = f := ⟨_, rfl⟩
  obtain ⟨F, eF⟩ : ∃ f : Nat → Int, (fun t => ((CS.getD t c0).p : Int)) = f := ⟨_, rfl⟩
  have HLB : Hid (∀ t, LB t = wholeZ L (CS.getD t c0)) := show ∀ t, _ from fun t => by rw [← eLB]
  have HFF : Hid (∀ t, F t = ((CS.getD t c0).p : Int)) := show ∀ t, _ from fun t => by rw [← eF]
  have HKC : Hid (Kt n = CS.length) := by show _ = _; rw [← eK, eCS]
  have HK0 : Hid (Kt 0 = 0) := by show _ = _; rw [← eK]; rfl
  have HKb : Hid (∀ i, i ≤ n → Kt i ≤ 1000000) := show ∀ i, _ → _ from fun i hi => by rw [← eK]; exact hbnd i hi
  have HA1 : Hid (∀ i, i < n → (L i).f = true → Kt (i + 1) = Kt i + 1 ∧ LB (Kt i + 0) = L i ∧ F (Kt i + 0) = (i : Int)) := show ∀ i, _ → _ → _ from fun i hi hf => by
    obtain ⟨q1, q2, q3⟩ := cand_done (L := L) (R := R) (len := len) (stop := stop) hf
    have hat := candTo_at L R len stop hi (t := 0) (by omega)
    rw [eCS] at hat
    refine ⟨by rw [← eK, ← eK, candTo, List.length_append, q1], ?_, ?_⟩
    · rw [HLB.out, ← eK, hat, q2]
    · rw [HFF.out, ← eK, hat, q3]
  have HA2 : Hid (∀ i, i < n → (L i).f = false → Kt (i + 1) = Kt i + (R (liveTo L i)).length ∧ ∀ t, t < (R (liveTo L i)).length → LB (Kt i + t) = moreB (L i).t (L i).s (R (liveTo L i)) len stop t ∧ F (Kt i + t) = (i : Int)) := show ∀ i, _ → _ → _ from fun i hi hf => by
    obtain ⟨q1, q2⟩ := cand_live (L := L) (R := R) (len := len) (stop := stop) hf
    refine ⟨by rw [← eK, ← eK, candTo, List.length_append, q1], fun t ht => ?_⟩
    have hat := candTo_at L R len stop hi (t := t) (by omega)
    rw [eCS] at hat
    obtain ⟨q3, q4⟩ := q2 t ht
    exact ⟨by rw [HLB.out, ← eK, hat, q3], by rw [HFF.out, ← eK, hat, q4]⟩
  have HPW : Hid (∀ t, t < CS.length → (CS.getD t c0).p < n) := show ∀ t, _ → _ from fun t ht => by
    have h := getD_mem (cs := CS) ht
    rw [← eCS] at h
    have h2 := (candTo_mem h).1
    rw [eCS] at h2
    exact h2
  have HTL : Hid (∀ t, t < Kt n → (LB t).t.length ≤ 1000001) := show ∀ t, _ → _ from fun t ht => by
    rw [HLB.out]
    have h1 := hT _ (HPW.out t (by rw [← HKC.out]; exact ht))
    unfold wholeZ
    simp only [List.length_append]
    split
    · simp only [List.length_nil]; omega
    · simp only [List.length_cons, List.length_nil]; omega
  have HOK : Hid (okTo true R m = true) := by
    show _ = _
    simp only [okTo, Bool.true_and, List.all_eq_true, List.mem_range, decide_eq_true_eq]
    exact hrw
  have n0 : (0 : Int) < (n : Int) := by omega
  have HEL : Hid (growE L n R m width = 0 ∧ growL L n R m width len stop = bestZ CS width) := ⟨hE, by unfold growL; rw [if_pos hE, eCS]⟩
  have hwn : ¬ width < 1 := by omega
  have hwx : ¬ 4 < width := by omega
  obtain ⟨WN, eWN⟩ : ∃ WN : Nat, (WN : Int) = width := ⟨width.toNat, by omega⟩
  have hWN : 1 ≤ WN ∧ WN ≤ 4 := by omega
  clear h0 h1 hT hR hmm hrw hbnd eKt eK eCS eLB eF hE hw1 hw2
  subst eWN
  go_enter Try.func11, Try.ntmps11
  go_wp2
  go_loopw [13, 14] (fun s i wr => ∃ k : Nat, k ≤ n ∧ i = .int .i64 k ∧ s = .int .i64 (liveTo L k : Nat) ∧ wr = w) (fun _ i _ => n - (intOf i).toNat)
  case atStart => exact ⟨0, Nat.zero_le _, rfl, rfl, rfl⟩
  case round =>
    obtain ⟨k, hk, rfl, rfl, hw0⟩ := hrel
    obtain rfl := hw0.symm
    by_cases hlt : k < n
    · obtain ⟨x, hx⟩ := H0.out.some_ (by omega)
      subst hx
      obtain ⟨y, ey, d0, d1, d2⟩ := H0.out.at3 hlt
      have lv := liveTo_le L k
      have HS : Hid (liveTo L (k + 1) = liveTo L k + (if (L k).f = true then 0 else 1)) := show _ = _ from rfl
      obtain ⟨f, ef⟩ : ∃ f, (L k).f = f := ⟨_, rfl⟩
      rw [ef] at d2 HS
      obtain ⟨q, eq⟩ : ∃ q, liveTo L k = q := ⟨_, rfl⟩
      rw [eq] at HS lv ⊢
      clear ef eq d0 d1
      cases f with
      | true =>
        go_wp2
        go_roundw
        case rel => exact ⟨k + 1, by omega, by go_num, by rw [HS.out]; rfl, by first | rfl | trivial⟩
        case measure => simp [intOf]; omega
      | false =>
        go_wp2
        go_roundw
        case rel => exact ⟨k + 1, by omega, by go_num, by rw [HS.out]; simp, by first | rfl | trivial⟩
        case measure => simp [intOf]; omega
    · obtain rfl : n = k := by omega
      rw [← HM.out]
      go_wp2
      go_loopw [15, 16] (fun o i wr => ∃ j : Nat, j ≤ m ∧ i = .int .i64 j ∧ o = .bool (okTo true R j) ∧ wr = w) (fun _ i _ => m - (intOf i).toNat)
      case atStart => exact ⟨0, Nat.zero_le _, rfl, rfl, rfl⟩
      case round =>
        obtain ⟨j, hj, rfl, rfl, hw0⟩ := hrel
        obtain rfl := hw0.symm
        by_cases hlt : j < m
        · obtain ⟨x1, hx1⟩ := H1.out.some_ (by omega)
          subst hx1
          have g0 := H1.out.cell x1 rfl j hlt
          have HS : Hid (okTo true R (j + 1) = (okTo true R j && decide (0 < (R j).length))) := okTo_succ _ _ _
          obtain ⟨b, eb⟩ : ∃ b, okTo true R j = b := ⟨_, rfl⟩
          rw [eb] at HS ⊢
          obtain ⟨T, eT⟩ : ∃ T, (R j).length = T := ⟨_, rfl⟩
          rw [eT] at g0 HS
          clear eb eT
          cases b with
          | true =>
            by_cases hT0 : 0 < T
            · have hT1 : (0 : Int) < (T : Int) := by omega
              have HS2 : Hid (okTo true R (j + 1) = true) := by show _ = _; rw [HS.out]; simp [hT0]
              clear HS
              go_wp2
              go_roundw
              case rel => exact ⟨j + 1, by omega, by go_num, by rw [HS2.out], by first | rfl | trivial⟩
              case measure => simp [intOf]; omega
            · have hT1 : decide ((0 : Int) < (T : Int)) = false := decide_eq_false (by omega)
              obtain rfl : T = 0 := by omega
              have HS2 : Hid (okTo true R (j + 1) = false) := by show _ = _; rw [HS.out]; simp
              clear HS
              go_wp2
              go_roundw
              case rel => exact ⟨j + 1, by omega, by go_num, by rw [HS2.out], by first | rfl | trivial⟩
              case measure => simp [intOf]; omega
          | false =>
            have HS2 : Hid (okTo true R (j + 1) = false) := by show _ = _; rw [HS.out]; rfl
            clear HS
            go_wp2
            go_roundw
            case rel => exact ⟨j + 1, by omega, by go_num, by rw [HS2.out], by first | rfl | trivial⟩
            case measure => simp [intOf]; omega
        · obtain rfl : m = j := by omega
          rw [HOK.out]
          go_wp2
          go_loopw [17, 18, 19, 20, 21] (fun va vf vs nn i wr => ∃ k : Nat, k ≤ n ∧ i = .int .i64 k ∧ nn = .int .i64 (liveTo L k : Nat) ∧ ∃ A' C', Hid (RA w wr va vf vs (Kt k) (Kt k) (Kt k) A' C' LB F)) (fun _ _ _ _ i _ => n - (intOf i).toNat)
          case atStart => exact ⟨0, Nat.zero_le _, rfl, rfl, (fun _ => none), (fun _ => 0), by rw [HK0.out]; exact RA.start w _ _ _ _⟩
          case round =>
            obtain ⟨k, hk, rfl, rfl, A', C', HR⟩ := hrel
            by_cases hlt : k < n
            · have hbr := HR.out.bel
              obtain ⟨x, hx⟩ := H0.out.some_ (by omega)
              subst hx
              obtain ⟨y, ey, d0, d1, d2⟩ := (H0.out.below hbr).at3 (r := k) hlt
              have tk := HT.out k hlt
              have lvk := liveTo_le L k
              obtain ⟨W1, eW1⟩ : ∃ W1, wr.alloc (.cells #[.slice (A k) (L k).t.length (C k), .int .i64 (L k).s, .bool (L k).f] 42) = W1 := ⟨_, rfl⟩
              have b1 : Below wr.heap.size wr W1 := by rw [← eW1]; exact below_new (Below.refl _ _) _
              have HP1 : Hid ((L k).f = true → Pk w LB F Kt k u17 u18 u19 A' C' W1 (.slice (some ⟨wr.heap.size, 0, none⟩) 1 1)) := show _ → _ from fun hf => by
                rw [← eW1]
                obtain ⟨q1, q2, q3⟩ := HA1.out k hlt hf
                exact Pk.done HR.out (H0.out.row k hlt) (H0.out.nil k hlt) (H0.out.wf k hlt) q2 q3 q1 (HKb.out k hk)
              have HP2 : Hid ((L k).f = false → liveTo L k < m ∧ ∀ W W2 a c Ac Cc, Below W1.heap.size W1 W → Below W.heap.size W W2 → BmAt W2 a (R (liveTo L k)).length Ac Cc (moreB (L k).t (L k).s (R (liveTo L k)) len stop) → (∀ x, a = some x → W.heap.size ≤ x.block) → (∀ r x, r < (R (liveTo L k)).length → Ac r = some x → W.heap.size ≤ x.block) → Pk w LB F Kt k u17 u18 u19 A' C' W2 (.slice a (R (liveTo L k)).length c)) := show _ → _ from fun hf => by
                have hq : liveTo L k < m := by have := liveTo_live L hlt hf; have := HM.out; omega
                refine ⟨hq, fun W W2 a c Ac Cc hb1 hb2 hB ha hA => ?_⟩
                obtain ⟨q1, q2⟩ := HA2.out k hlt hf
                have h5 := HR5.out _ hq
                exact Pk.live HR.out (below_then b1 hb1) hb2 hB h5.1 h5.2 ha hA (fun t ht => (q2 t ht).1) (fun t ht => (q2 t ht).2) q1 (HKb.out (k + 1) hlt)
              have HRD : Hid (Reads .i64 W1 (A k) (L k).t.length (L k).t ∧ (A k = none → C k = 0)) := ⟨((H0.out.below hbr).row k hlt).below b1, H0.out.nil k hlt⟩
              have HG1 : Hid (Grid W1 a1 m A1 C1 R) := (H1.out.below hbr).below b1
              have HN1 : Hid (liveTo L (k + 1) = liveTo L k + (if (L k).f = true then 0 else 1)) := show _ = _ from rfl
              have d0b := below_cell b1 d0
              have d1b := below_cell b1 d1
              have d2b := below_cell b1 d2
              obtain ⟨LT, eLT⟩ : ∃ T, (L k).t = T := ⟨_, rfl⟩
              rw [eLT] at d0 d0b HP2 HRD tk eW1
              obtain ⟨TL, eTL⟩ : ∃ T, LT.length = T := ⟨_, rfl⟩
              rw [eTL] at d0 d0b HRD tk eW1
              obtain ⟨SL, eSL⟩ : ∃ T, (L k).s = T := ⟨_, rfl⟩
              rw [eSL] at d1 d1b HP2 eW1
              obtain ⟨FL, eFL⟩ : ∃ T, (L k).f = T := ⟨_, rfl⟩
              rw [eFL] at d2 d2b HP1 HP2 eW1 HN1
              obtain ⟨Q0, eQ0⟩ : ∃ T, liveTo L k = T := ⟨_, rfl⟩
              rw [eQ0] at HP2 lvk HN1 ⊢
              clear eLT eTL eSL eFL eQ0 HR
              go_upto_if 91 with fail
              go_cut [20, 22] from 75 to 129 (fun v20 v22 W => v20 = .int .i64 (liveTo L (k + 1) : Nat) ∧ Hid (Pk w LB F Kt k u17 u18 u19 A' C' W v22))
              case first =>
                cases FL with
                | true =>
                  have HP : Hid _ := HP1.out rfl
                  clear HP1 HP2 HRD HG1
                  go_wp2
                  go_meet
                  case rel => exact ⟨by rw [HN1.out]; rfl, HP⟩
                | false =>
                  obtain ⟨hq, HP⟩ := HP2.out rfl
                  have HP3 : Hid _ := HP
                  obtain ⟨x1, hx1⟩ := HG1.out.some_ (by omega)
                  subst hx1
                  have g0 := HG1.out.cell x1 rfl Q0 hq
                  have gr := HG1.out.row Q0 hq
                  have h5 := HR5.out Q0 hq
                  have kgr := fun W (hb : Below W1.heap.size W1 W) => refGrown_call (A k) TL (C k) LT SL false (A1 Q0) (R Q0).length (C1 Q0) (R Q0) len stop W (HRD.out.1.below hb) HRD.out.2 (gr.below hb) h5.2 tk
                  have NX : Hid (liveTo L (k + 1) = Q0 + 1) := by show _ = _; rw [HN1.out]; rfl
                  obtain ⟨RN, eRN⟩ : ∃ T, (R Q0).length = T := ⟨_, rfl⟩
                  rw [eRN] at g0 kgr HP3
                  obtain ⟨q1', q2'⟩ := h5
                  clear HP1 HP2 HP gr eRN HN1 HG1
                  go_wp2
                  go_region_with (go_at_call 26; refine (kgr _ (below_drew (Below.refl _ _) ⟨1, rfl⟩)).mono ?_; rintro e W2 ⟨⟨ag, cg, Ag, Cg, rfl, hBg, hag, hAg⟩, hb2⟩; have HPP : Hid _ := HP3.out _ W2 ag cg Ag Cg (below_drew (Below.refl _ _) ⟨1, rfl⟩) hb2 hBg hag hAg; clear HP3 kgr hBg hag hAg hb2)
                  all_goals (
                    go_wp2
                    go_meet
                    case rel => exact ⟨by rw [NX.out]; first | rfl | simp | go_num, HPP⟩)
              case rest =>
                obtain ⟨rfl, HPK⟩ := hcut
                obtain ⟨M0, N, xc, cc, Ac, Cc, hv22, hM0, hC, hN, hTK, hFt, hKB, hKN, hRA, hWin⟩ := HPK.out
                subst hv22
                obtain ⟨Wc, eWc⟩ : ∃ W, wc = W := ⟨_, rfl⟩
                rw [eWc] at hC hRA hWin ⊢
                obtain ⟨KK, eKK⟩ : ∃ K, Kt k = K := ⟨_, rfl⟩
                rw [eKK] at hC hTK hFt hKB hKN hRA
                have HC : Hid (BmAt Wc (some xc) M0 Ac Cc (fun t => LB (KK + t))) := hC
                have HCA : Hid (∀ x, some xc = some x → N ≤ x.block) := show ∀ x, _ → _ from fun x hx => by obtain rfl := Option.some.inj hx; exact hN
                have HTK : Hid _ := hTK
                have HFt : Hid _ := hFt
                have HKB : Hid _ := hKB
                have HKN : Hid _ := hKN
                have HRA : Hid (RA w Wc u17 u18 u19 (KK + 0) (KK + 0) (KK + 0) A' C' LB F) := hRA
                have HWin : Hid _ := hWin
                clear hC hN hTK hFt hKB hKN hRA hWin HPK eWc eKK d0 d1 d2 d0b d1b d2b ey HP1 HP2 HRD HG1 b1 eW1 HN1 tk hbr
                go_wp2
                go_loopw [17, 18, 19, 23] (fun v1 v2 v3 s wr2 => ∃ t : Nat, t ≤ M0 ∧ s = .int .i64 t ∧ ∃ A2 C2, Hid (RA w wr2 v1 v2 v3 (KK + t) (KK + t) (KK + t) A2 C2 LB F) ∧ Hid (Win Wc N wr2 v1 v2 v3)) (fun _ _ _ s _ => M0 - (intOf s).toNat)
                case atStart => exact ⟨0, Nat.zero_le _, rfl, _, _, HRA, HWin⟩
                case round =>
                  obtain ⟨t, ht, rfl, A2, C2, HR2, HW2⟩ := hrel
                  clear HRA HWin
                  by_cases hlt2 : t < M0
                  · have hbm := HW2.out.bm HR2.out.bel HC.out HCA.out HTK.out
                    obtain ⟨y2, ey2, e0, e1, e2⟩ := hbm.at3 (r := t) hlt2
                    have HRT : Hid (Reads .i64 wr (Ac t) (LB (KK + t)).t.length (LB (KK + t)).t) := hbm.row t hlt2
                    have HNL : Hid (Ac t = none → Cc t = 0) := HC.out.nil t hlt2
                    have HWF : Hid ((Lit.int .i64 (LB (KK + t)).s).wf = true) := HC.out.wf t hlt2
                    have HTt : Hid (0 < (LB (KK + t)).t.length → ∀ x, Ac t = some x → N ≤ x.block ∨ Reads .i64 w (Ac t) (LB (KK + t)).t.length (LB (KK + t)).t) := HTK.out t hlt2
                    have HCt : Hid (Reads .i64 Wc (Ac t) (LB (KK + t)).t.length (LB (KK + t)).t) := HC.out.row t hlt2
                    have HFv : Hid (F (KK + t) = (k : Int)) := HFt.out t hlt2
                    have kb : KK + t ≤ 1000000 := HKB.out t hlt2
                    have hsz := HR2.out.bel.size
                    obtain ⟨TN, eTN⟩ : ∃ T, (LB (KK + t)).t.length = T := ⟨_, rfl⟩
                    obtain ⟨SV, eSV⟩ : ∃ T, (LB (KK + t)).s = T := ⟨_, rfl⟩
                    obtain ⟨FV, eFV⟩ : ∃ T, (LB (KK + t)).f = T := ⟨_, rfl⟩
                    rw [eTN] at e0
                    rw [eSV] at e1
                    rw [eFV] at e2
                    have HE : Hid ((LB (KK + t)).t.length = TN ∧ (LB (KK + t)).s = SV ∧ (LB (KK + t)).f = FV) := ⟨eTN, eSV, eFV⟩
                    obtain ⟨AT, eAT⟩ : ∃ T, Ac t = T := ⟨_, rfl⟩
                    obtain ⟨CT, eCT⟩ : ∃ T, Cc t = T := ⟨_, rfl⟩
                    rw [eAT, eCT] at e0
                    obtain ⟨KT, eKT⟩ : ∃ T, KK + t = T := ⟨_, rfl⟩
                    rw [eKT] at HR2 HE HRT HWF HTt HCt HFv kb
                    rw [eAT] at HRT HTt HCt HNL
                    rw [eCT] at HNL
                    have HKT : Hid (KK + t = KT) := eKT
                    clear hbm eTN eSV eFV eAT eCT eKT
                    go_wp2_with (first
                      | (at_builtin; refine wpList_bmpush rfl (.tmp 111) (.tmp 116) 22 rfl _ KT HR2.out.o1 Try.underlying22 info42 hsz kb AT CT TN SV FV HE.out.1 HE.out.2.1 HE.out.2.2 rfl rfl HRT.out (fun h0 x hx g hg e => HW2.out.off HR2.out.o1.own HCt.out h0 hx (HTt.out h0 x hx) (by rw [hg, e])) HNL.out HWF.out ?_; intro v5 w5 ho5 hg5 hs5
                         have R5 : Hid (RA w w5 v5 _ _ (KT + 1) KT KT _ _ LB F) := HR2.out.s1 _ ho5 hg5 hs5 (fun h0 x hx => HW2.out.rot.off HR2.out.o2 HCt.out h0 hx (HTt.out h0 x hx)) (fun h0 x hx => HW2.out.rot.rot.off HR2.out.o3 HCt.out h0 hx (HTt.out h0 x hx))
                         have X5 : Hid (Win Wc N w5 v5 _ _) := HW2.out.step _ hg5 hs5
                         have hsz5 := R5.out.bel.size
                         clear ho5 hg5 hs5)
                      | (at_builtin; refine wpList_intpush rfl (.tmp 118) (.tmp 120) 29 rfl _ KT _ R5.out.o2 Try.underlying29 info3 hsz5 kb (k : Int) rfl rfl ?_; intro v6 w6 ho6 hg6 hs6
                         have R6 : Hid (RA w w6 v5 v6 _ (KT + 1) (KT + 1) KT _ _ LB F) := R5.out.s2 _ (by rw [HFv.out]; exact ho6) hg6 hs6
                         have X6 : Hid (Win Wc N w6 v5 v6 _) := (X5.out.rot.step _ hg6 hs6).rot.rot
                         obtain ⟨y3, ey3, -, e13, -⟩ := (X6.out.bm R6.out.bel HC.out HCA.out HTK.out).at3 (r := t) hlt2
                         obtain rfl := ey2.symm.trans ey3
                         rw [HKT.out, HE.out.2.1] at e13
                         have hsz6 := R6.out.bel.size
                         clear ho6 hg6 hs6 ey3 R5 X5)
                      | (at_builtin; refine wpList_intpush rfl (.tmp 122) (.tmp 128) 46 rfl _ KT _ R6.out.o3 Try.underlying46 info2 hsz6 kb SV rfl rfl ?_; intro v7 w7 ho7 hg7 hs7
                         have R7 : Hid (RA w w7 v5 v6 v7 (KT + 1) (KT + 1) (KT + 1) _ _ LB F) := R6.out.s3 _ (by rw [HE.out.2.1]; exact ho7) hg7 hs7
                         have X7 : Hid (Win Wc N w7 v5 v6 v7) := (X6.out.rot.rot.step _ hg7 hs7).rot
                         clear ho7 hg7 hs7 R6 X6))
                    clear e0 e1 e2 e13 ey2 HRT HNL HWF HTt HCt HR2 HW2 HE HFv
                    rw [← HKT.out] at R7
                    go_roundw
                    case rel => exact ⟨t + 1, by omega, by go_num, _, _, R7, X7⟩
                    case measure => simp [intOf]; omega
                  · obtain rfl : t = M0 := by omega
                    have HN : Hid _ := HR2.out
                    rw [HKN.out] at HN
                    clear HR2 HW2 HC HCA HTK HFt HKB hlt2 ht HKN
                    go_wp2
                    go_roundw
                    case rel => exact ⟨k + 1, by omega, by go_num, rfl, _, _, HN⟩
                    case measure => simp [intOf]; omega
            · obtain rfl : n = k := by omega
              have hK1 := HKb.out n (Nat.le_refl _)
              obtain ⟨aa, ac, ev1, hBa, -, -⟩ := HR.out.o1.at_
              obtain ⟨af, fc, ev2, rf⟩ := own_reads (k := .i64) (zs := growP CS) HR.out.o2 (by simp [growP, HKC.out]) (fun z hz => by
                obtain ⟨x, hx, rfl⟩ := List.mem_map.1 hz
                obtain ⟨i, hi, rfl⟩ := List.getElem_of_mem hx
                have := HPW.out i hi
                rw [show CS.getD i c0 = CS[i] by simp [List.getD, hi]] at this
                exact WalkArith.wf_i64 ⟨by omega, by omega⟩) (fun j hj => by rw [gath_at _ _ _ _ hj, HFF.out, growP_at CS (by rw [← HKC.out]; exact hj)])
              obtain ⟨sa, sc, ev3, rs⟩ := own_reads (k := .i64) (zs := scoresZ CS) HR.out.o3 (by simp [scoresZ, HKC.out]) (fun z hz => by
                obtain ⟨x, hx, rfl⟩ := List.mem_map.1 hz
                obtain ⟨i, hi, rfl⟩ := List.getElem_of_mem hx
                have := HR.out.o1.wf i (by rw [HKC.out]; exact hi)
                rw [HLB.out] at this
                rw [show CS.getD i c0 = CS[i] by simp [List.getD, hi]] at this
                exact this) (fun j hj => by rw [gath_at _ _ _ _ hj, scores_at CS (by rw [← HKC.out]; exact hj), HLB.out]; rfl)
              subst ev1 ev2 ev3
              have hbr := HR.out.bel
              have kt := refTop_call sa (Kt n) sc (scoresZ CS) (WN : Int) wr rs (by omega)
              obtain ⟨pl, epl⟩ : ∃ f : Nat → Nat, (fun q => (places (scoresZ CS)).getD q 0) = f := ⟨_, rfl⟩
              have HPL : Hid (∀ q, q < Kt n → pl q < Kt n) := show ∀ q, _ → _ from fun q hq => by rw [← epl, HKC.out]; exact place_lt CS (by rw [← HKC.out]; exact hq)
              obtain ⟨Q, eQ⟩ : ∃ q, min ((WN : Int)).toNat (Kt n) = q := ⟨_, rfl⟩
              have hQ1 : Q ≤ Kt n := by omega
              have hQ4 : Q ≤ 4 := by omega
              have HPK : Hid (∀ q, q < Q → (pickZ (scoresZ CS) (WN : Int)).getD q 0 = (pl q : Nat)) := show ∀ q, _ → _ from fun q hq => by rw [topZ_at _ _ _ (by rw [show (scoresZ CS).length = Kt n by simp [scoresZ, HKC.out]]; omega), ← epl]
              have HANS : Hid (∀ W3 W vo vp A2 C2, RA W3 W vo vp (.slice none 0 0) Q Q 0 A2 C2 (fun q => LB (pl q)) (fun q => F (pl q)) → ∃ a c b d, vo = .slice a Q c ∧ vp = .slice b Q d ∧ RefAns W (.returned (.tuple #[.slice a Q c, .slice b Q d, .int .i64 0])) L n R m (WN : Int) len stop) := show ∀ W3 W vo vp A2 C2, _ → _ from fun W3 W vo vp A2 C2 h => by
                have hl : (bestZ CS (WN : Int)).length = Q := by rw [bestZ_length, ← HKC.out]; exact eQ
                have hat : ∀ r, r < Q → (bestZ CS (WN : Int)).getD r c0 = CS.getD (pl r) c0 := fun r hr => by rw [bestZ_at CS _ (by rw [← HKC.out]; omega), ← epl]
                exact ref_ans h HEL.out.1 HEL.out.2 hl (fun r hr => by show LB (pl r) = wholeZ L _; rw [hat r hr, HLB.out]) (fun r hr => by show F (pl r) = _; rw [hat r hr, HFF.out]) (fun r hr => by rw [hat r hr]; have h1 := HPL.out r (by omega); have := HPW.out (pl r) (by rw [← HKC.out]; exact h1); omega)
              rw [eQ] at kt
              have HFZ : Hid (∀ t, t < Kt n → (growP CS).getD t 0 = F t) := show ∀ t, _ → _ from fun t ht => by rw [growP_at CS (by rw [← HKC.out]; exact ht), HFF.out]
              have HTB : Hid (∀ t, t < Kt n → (LB t).t.length ≤ 1000001) := HTL.out
              obtain ⟨PZ, ePZ⟩ : ∃ z, pickZ (scoresZ CS) (WN : Int) = z := ⟨_, rfl⟩
              rw [ePZ] at kt HPK
              obtain ⟨FZ, eFZ⟩ : ∃ z, growP CS = z := ⟨_, rfl⟩
              rw [eFZ] at rf HFZ
              obtain ⟨K, eKK⟩ : ∃ z, Kt n = z := ⟨_, rfl⟩
              rw [eKK] at kt rf hBa HPL hQ1 HFZ hK1 HTB
              simp only [eKK]
              have HBa0 : Hid _ := hBa
              have HRf0 : Hid _ := rf
              clear epl eQ ePZ eFZ eKK HR rs hBa rf HA1 HA2 HKb HK0 HKC HLB HFF HPW HEL HM HR5 HT HOK HTL
              go_wp2_with (go_at_call 27; refine kt.mono ?_; rintro e W3 ⟨⟨ab, bc, rfl, rb, hnb, hcb⟩, hb3⟩)
              have HBa : Hid (BmAt W3 aa K A' C' LB) := HBa0.out.below hb3
              have HRf : Hid (Reads .i64 W3 af K FZ) := HRf0.out.below hb3
              have HRb : Hid (Reads .i64 W3 ab Q PZ) := rb
              have hbW3 := below_then hbr hb3
              obtain ⟨i0, hi, hz0, hz1, hz2⟩ := info_parts info3
              clear HBa0 HRf0 rb hb3 hbr kt hnb hcb H0 H1
              go_loopw [25, 26, 27] (fun vo vp i wr => ∃ q : Nat, q ≤ Q ∧ i = .int .i64 q ∧ ∃ A2 C2, Hid (RA W3 wr vo vp (.slice none 0 0) q q 0 A2 C2 (fun q => LB (pl q)) (fun q => F (pl q)))) (fun _ _ i _ => Q - (intOf i).toNat)
              case atStart => exact ⟨0, Nat.zero_le _, rfl, (fun _ => none), (fun _ => 0), RA.start _ _ _ _ _⟩
              case round =>
                obtain ⟨q, hq, rfl, A2, C2, HR2⟩ := hrel
                by_cases hlq : q < Q
                · have hb4 := HR2.out.bel
                  have hP := HPL.out q (by omega)
                  have HLO : Hid (LB (pl q) = LB (pl q)) := show _ = _ from rfl
                  obtain ⟨xb, hxb⟩ := HRb.out.some_ (by omega)
                  subst hxb
                  obtain ⟨xf, hxf⟩ := HRf.out.some_ (by omega)
                  subst hxf
                  obtain ⟨xa, hxa⟩ := HBa.out.some_ (by omega)
                  subst hxa
                  have cbq := (HRb.out.below hb4).cell xb rfl q hlq
                  rw [HPK.out q hlq] at cbq
                  obtain ⟨P, eP⟩ : ∃ P, pl q = P := ⟨_, rfl⟩
                  rw [eP] at cbq hP
                  obtain ⟨ya, eya, d0, d1, d2⟩ := (HBa.out.below hb4).at3 (r := P) hP
                  have rT := (HBa.out.below hb4).row P hP
                  have nT := HBa.out.nil P hP
                  have wT := HBa.out.wf P hP
                  have tT := HTB.out P hP
                  have fZ := HFZ.out P hP
                  have HLq : Hid (LB (pl q) = LB P ∧ F (pl q) = F P) := ⟨by rw [eP], by rw [eP]⟩
                  have HPq : Hid (PZ.getD q 0 = (P : Int)) := by show _ = _; rw [HPK.out q hlq, eP]
                  have wz := rT.wf_mem
                  have hlT := rT.len
                  obtain ⟨TT, eTT⟩ : ∃ T, (LB P).t = T := ⟨_, rfl⟩
                  rw [eTT] at d0 rT tT wz hlT
                  obtain ⟨TN, eTN⟩ : ∃ T, TT.length = T := ⟨_, rfl⟩
                  rw [eTN] at d0 rT tT
                  obtain ⟨SV, eSV⟩ : ∃ T, (LB P).s = T := ⟨_, rfl⟩
                  rw [eSV] at d1 wT
                  obtain ⟨FV, eFV⟩ : ∃ T, (LB P).f = T := ⟨_, rfl⟩
                  rw [eFV] at d2
                  obtain ⟨AT, eAT⟩ : ∃ T, A' P = T := ⟨_, rfl⟩
                  obtain ⟨CT, eCT⟩ : ∃ T, C' P = T := ⟨_, rfl⟩
                  rw [eAT, eCT] at d0 nT
                  rw [eAT] at rT
                  obtain ⟨FP, eFP⟩ : ∃ T, F P = T := ⟨_, rfl⟩
                  rw [eFP] at fZ HLq
                  have HE : Hid ((LB P).t = TT ∧ TT.length = TN ∧ (LB P).s = SV ∧ (LB P).f = FV) := ⟨eTT, eTN, eSV, eFV⟩
                  obtain ⟨W5, eW5⟩ : ∃ W, wr.alloc (.cells #[.slice AT TN CT, .int .i64 SV, .bool FV] 42) = W := ⟨_, rfl⟩
                  have b5 : Below wr.heap.size wr W5 := by rw [← eW5]; exact below_new (Below.refl _ _) _
                  have KEY : Hid _ := fun (w7 : World) (v2 : Value) (hb : Below W5.heap.size W5 w7) ho => box_set (TT := TT) (v2 := v2) eW5 hb eTN wz ho
                  have own1 : (W5.alloc (.cells #[] 3)).ownsRow W5.heap.size 3 1 (.slice (some ⟨W5.heap.size, 0, none⟩) 0 0) 0 [] := World.ownsRow_lit W5 #[] 0 (Nat.le_refl _) (by decide) rfl
                  have rt1 := (rT.below b5).below (below_new (Below.refl W5.heap.size W5) (.cells #[] 3))
                  have bx0 : (W5.alloc (.cells #[] 3)).cell? ⟨wr.heap.size, 0, none⟩ = some (.slice AT TN CT) := alloc_keep _ _ _ _ (by rw [← eW5]; simp)
                  have hU1 : Hid (∀ g, u25.ownBlock = some g → g < wr.heap.size) := show ∀ g, _ → _ from fun g h => (HR2.out.o1.own.lt g h).2
                  have hU2 : Hid (∀ g, u26.ownBlock = some g → g < wr.heap.size) := show ∀ g, _ → _ from fun g h => (HR2.out.o2.lt g h).2
                  clear eTT eTN eSV eFV eAT eCT eFP eP rT HLO
                  go_wp2_with (first
                    | (at_builtin; refine wpList_copy rfl (.tmp 146) (.tmp 148) 29 rfl W5.heap.size 3 i0 (.int .i64 0) 8 Try.underlying29 hi hz0 hz1 hz2 rfl _ 0 [] rfl own1 .i64 AT TN CT TT rfl rt1 nT (by unfold maxLen; omega) (by omega) (by simp) ?_; intro v2 w7 ho2 hg2
                       have hb7 : Below W5.heap.size W5 w7 := copied_from (Below.refl _ _) _ ho2 hg2
                       obtain ⟨a2, c2, ev, q0, q1, W8, eW8, q2, q3, q4, hQ8⟩ := KEY.out w7 v2 hb7 (by simpa using ho2)
                       have HQ8 : Hid _ := hQ8
                       have R8 : Hid (RA W3 W8 _ _ _ q q 0 A2 C2 _ _) := HR2.out.below hQ8.1
                       have hs8 := R8.out.bel.size
                       subst ev
                       clear ho2 hg2 own1 KEY hQ8)
                    | (at_builtin; refine wpList_bmpush rfl (.tmp 151) (.tmp 153) 22 rfl _ q R8.out.o1 Try.underlying22 info42 hs8 (by omega) a2 c2 TN SV FV (by show (LB (pl q)).t.length = _; rw [HLq.out.1, HE.out.1]; exact HE.out.2.1) (by show (LB (pl q)).s = _; rw [HLq.out.1]; exact HE.out.2.2.1) (by show (LB (pl q)).f = _; rw [HLq.out.1]; exact HE.out.2.2.2) rfl rfl (by show Reads .i64 W8 a2 (LB (pl q)).t.length (LB (pl q)).t; rw [HLq.out.1, HE.out.1, HE.out.2.1]; exact HQ8.out.2.1) (fun _ x hx g hg => by
                         have h1 := hU1.out g hg
                         have h2 := HQ8.out.2.2.2 x hx
                         omega) HQ8.out.2.2.1 (by show (Lit.int .i64 (LB (pl q)).s).wf = true; rw [HLq.out.1, HE.out.2.2.1]; exact wT) ?_; intro v9 w9 ho9 hg9 hs9
                       have R9 : Hid (RA W3 w9 v9 _ _ (q + 1) q 0 _ _ _ _) := R8.out.s1 _ ho9 hg9 hs9 (fun _ x hx e => by
                         have h1 := hU2.out _ e
                         have h2 := HQ8.out.2.2.2 x hx
                         omega) (fun _ x hx e => by cases e)
                       have hs9' := R9.out.bel.size
                       have cb9 := (HRb.out.below R9.out.bel).cell xb rfl q hlq
                       rw [HPq.out] at cb9
                       have cf9 := (HRf.out.below R9.out.bel).cell xf rfl P hP
                       rw [fZ] at cf9
                       clear ho9 hg9 hs9)
                    | (at_builtin; refine wpList_intpush rfl (.tmp 155) (.tmp 163) 29 rfl _ q _ R9.out.o2 Try.underlying29 info3 hs9' (by omega) FP rfl rfl ?_; intro v10 w10 ho10 hg10 hs10
                       have R10 : Hid (RA W3 w10 v9 v10 _ (q + 1) (q + 1) 0 _ _ _ _) := R9.out.s2 _ (by show w10.ownsRow _ 3 1 v10 (q + 1) (_ ++ [.int .i64 (F (pl q))]); rw [HLq.out.2]; exact ho10) hg10 hs10
                       clear ho10 hg10 hs10))
                  clear cbq d0 d1 d2 cb9 cf9 q0 q1 q2 q3 q4 R8 R9 HQ8 eW8 eW5 HR2
                  go_roundw
                  case rel => exact ⟨q + 1, by omega, by go_num, _, _, R10⟩
                  case measure => simp [intOf]; omega
                · obtain rfl : q = Q := by omega
                  obtain ⟨ra, rc', rb', rd', e1, e2, ANS⟩ := HANS.out _ _ _ _ _ _ HR2.out
                  subst e1 e2
                  have HAN : Hid _ := ANS
                  have hb6 := below_then hbW3 HR2.out.bel
                  clear ANS HR2
                  go_wp2
                  go_ret3
                  exact ⟨HAN.out, hb6⟩

end Go.Proofs.Yteeljnibglnflaa

namespace Go.Proofs.Yteeljnibglnflaa
set_option maxRecDepth 20000
open Go.ChangeShapes Go.WideShapes Go.ChangeAt Go.RowKit
set_option linter.unusedVariables false
set_option linter.unusedSimpArgs false

theorem refGrow_call (a0 : Option Addr) (n ca : Nat) (A : Nat → Option Addr) (C : Nat → Nat) (L : Nat → Bm) (a1 : Option Addr) (m cb : Nat) (A1 : Nat → Option Addr) (C1 : Nat → Nat) (R : Nat → List Int) (width len stop : Int) (w : World)
    (h0 : BmAt w a0 n A C L) (h1 : Grid w a1 m A1 C1 R) (hR : ∀ r, r < m → (R r).length ≤ 1000) (hn : n ≤ 1000) (hT : ∀ r, r < n → (L r).t.length ≤ 1000000) :
    Calls Try.prog 11 #[.slice a0 n ca, .slice a1 m cb, .int .i64 width, .int .i64 len, .int .i64 stop] w fun e w' => RefAns w' e L n R m width len stop ∧ Below w.heap.size w w' := by
  by_cases hE : growE L n R m width = 0
  · exact refGrow_yes a0 n ca A C L a1 m cb A1 C1 R width len stop w h0 h1 hE hR hn hT
  · refine (refGrow_no a0 n ca A C L a1 m cb A1 C1 R width len stop w h0 h1 hE).mono ?_
    rintro e w' ⟨rfl, hb⟩
    refine ⟨?_, hb⟩
    have eL : growL L n R m width len stop = [] := by unfold growL; rw [if_neg hE]
    unfold RefAns
    rw [eL]
    exact ⟨none, none, 0, 0, (fun _ => none), (fun _ => 0), rfl, BmAt.nil_ _ _ _ _, Reads.nil _ _⟩
theorem run_neq30 (a : Int) (w : World) : (binOp .neq 30 (.int .i64 a) (.int .i64 a)).run Try.prog w = .ok (.bool false) w := by go_simp
theorem run_load40 {w : World} {y : Addr} {a : Option Addr} {n c : Nat} {s : Int} {f : Bool} (h0 : w.cell? y = some (.slice a n c)) (h1 : w.cell? ⟨y.block, y.off + 1, none⟩ = some (.int .i64 s)) (h2 : w.cell? ⟨y.block, y.off + 2, none⟩ = some (.bool f)) : (Instr.loadAt 40 (.pointer (some y))).run Try.prog w = .ok (.agg #[.slice a n c, .int .i64 s, .bool f]) w := by go_simp
theorem run_load42 {w : World} {y : Addr} {a : Option Addr} {n c : Nat} {s : Int} {f : Bool} (h0 : w.cell? y = some (.slice a n c)) (h1 : w.cell? ⟨y.block, y.off + 1, none⟩ = some (.int .i64 s)) (h2 : w.cell? ⟨y.block, y.off + 2, none⟩ = some (.bool f)) : (Instr.loadAt 42 (.pointer (some y))).run Try.prog w = .ok (.agg #[.slice a n c, .int .i64 s, .bool f]) w := by go_simp

end Go.Proofs.Yteeljnibglnflaa

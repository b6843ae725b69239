/- What all beams become, candidate by candidate: a contract of the call. -/
import Derived.Test.YteeljnibglnflaaRows
import Derived.Test.YteeljnibglnflaaView
import Derived.Test.YteeljnibglnflaaOwn
import Derived.Test.YteeljnibglnflaaSat
import Derived.Test.YteeljnibglnflaaBmZ
import Derived.Test.YteeljnibglnflaaBmAt
import Derived.Test.YteeljnibglnflaaBmPre
import Derived.Test.YteeljnibglnflaaBmFits
import Derived.Test.YteeljnibglnflaaBmWhole
import Derived.Test.YteeljnibglnflaaBmCd
import Derived.Test.YteeljnibglnflaaGMean
import Derived.WalkKit
import Derived.ProofKit
import Derived.OpenShut
import Derived.WalkLawsBesides
import Derived.Below
import Derived.Deep.QuietTactic
import Derived.BigQuiet
import Derived.Laws.AppendOwnNone
import Derived.Maps.AppendAt
namespace Go.Proofs.Yteeljnibglnflaa
set_option maxRecDepth 20000
open Go.ChangeShapes Go.WideShapes Go.ChangeAt Go.RowKit
set_option linter.unusedVariables false

/-- what lies elsewhere is as it was, and the row lies where it lay or in a new block -/
structure Past (W : World) (v : Value) (w' : World) (v' : Value) : Prop where
  keep : ∀ p u, W.cell? p = some u → v.ownBlock ≠ some p.block → w'.cell? p = some u
  blk : v'.ownBlock = v.ownBlock ∨ ∃ g, v'.ownBlock = some g ∧ W.heap.size ≤ g
  size : W.heap.size ≤ w'.heap.size

theorem Past.refl (W : World) (v : Value) : Past W v W v := ⟨fun _ _ h _ => h, .inl rfl, Nat.le_refl _⟩

theorem Past.app {W w1 w2 : World} {v v1 v2 : Value} (h : Past W v w1 v1) {w1' : World} (hk : ∀ p u, w1.cell? p = some u → w1'.cell? p = some u) (hs : w1.heap.size ≤ w1'.heap.size) (hg : w1'.grownBy w2 v1.ownBlock) (hb : v2.ownBlock = v1.ownBlock ∨ v2.ownBlock = some w1'.heap.size) : Past W v w2 v2 := by
  refine ⟨fun p u hp hv => ?_, ?_, by have := h.size; have := hg.size; omega⟩
  · refine hg.cell (hk _ _ (h.keep p u hp hv)) fun e => ?_
    rcases h.blk with hb1 | ⟨g, hb1, hg1⟩
    · exact hv (hb1.symm.trans e.symm)
    · have h1 := World.block_lt_of_cell? W p hp
      rw [hb1] at e
      have := Option.some.inj e
      omega
  · rcases hb with e | e
    · rw [e]; exact h.blk
    · exact .inr ⟨_, e, by have := h.size; omega⟩

theorem Past.reads {W w' : World} {v v' : Value} (h : Past W v w' v') {k : IntKind} {a : Option Addr} {n : Nat} {zs : List Int} (r : Reads k W a n zs) (ha : ∀ x, a = some x → v.ownBlock ≠ some x.block) : Reads k w' a n zs :=
  ⟨r.len, r.max, r.wf, r.some_, fun x hx i hi => h.keep _ _ (r.cell x hx i hi) (by
    have e : (x.add i).block = x.block := by simp only [Addr.add]; split <;> rfl
    rw [e]
    exact ha x hx)⟩

theorem alloc_keep (w : World) (o : Obj) : ∀ p u, w.cell? p = some u → (w.alloc o).cell? p = some u := fun p u h =>
  ((below_new (Below.refl _ w) o).cell (World.block_lt_of_cell? w p h)).trans h

theorem lit_newb (w : World) (cs : List Value) (t : TypeId) (b : Nat) (hb : w.heap.size = b) : ∀ j u, cs[j]? = some u → (w.alloc (.cells cs.toArray t)).cell? ((⟨b, 0, none⟩ : Addr).add j) = some u := by
  subst hb
  exact lit_new w cs t

theorem cell5 (u0 u1 u2 u3 u4 : Value) (h0 : u0.oneCell' = true) (h1 : u1.oneCell' = true) (h2 : u2.oneCell' = true) (h3 : u3.oneCell' = true) (h4 : u4.oneCell' = true) : ∀ u ∈ [u0, u1, u2, u3, u4], u.oneCell' = true := by
  intro u hu
  simp only [List.mem_cons, List.not_mem_nil, or_false] at hu
  rcases hu with rfl | rfl | rfl | rfl | rfl <;> assumption

theorem wf_range {x : Int} (h1 : -9223372036854775808 ≤ x) (h2 : x ≤ 9223372036854775807) : (Lit.int .i64 x).wf = true := WalkArith.wf_i64 ⟨h1, h2⟩

/-- the rows that are left -/
theorem Grid.rest {w : World} {x : Addr} {n : Nat} {A : Nat → Option Addr} {C : Nat → Nat} {R : Nat → List Int} (h : Grid w (some x) (n + 1) A C R) {a : Option Addr} (ha : 0 < n → a = some (x.add 1)) : Grid w a n (fun r => A (r + 1)) (fun r => C (r + 1)) (fun r => R (r + 1)) :=
  ⟨by have := h.max; omega, fun h0 => ⟨_, ha h0⟩, fun y hy r hr => by
    rw [ha (by omega)] at hy
    obtain rfl := Option.some.inj hy
    rw [Addr.add_add, Nat.add_comm 1 r]
    exact h.cell x rfl (r + 1) (by omega), fun r hr => h.row (r + 1) (by omega)⟩

theorem Grid.congr {w : World} {a : Option Addr} {n : Nat} {A A' : Nat → Option Addr} {C C' : Nat → Nat} {R R' : Nat → List Int} (h : Grid w a n A C R) (hA : ∀ r, r < n → A r = A' r) (hC : ∀ r, r < n → C r = C' r) (hR : ∀ r, r < n → R r = R' r) : Grid w a n A' C' R' :=
  ⟨h.max, h.some_, fun x hx r hr => by rw [← hA r hr, ← hC r hr, ← hR r hr]; exact h.cell x hx r hr, fun r hr => by rw [← hR r hr, ← hA r hr]; exact h.row r hr⟩

set_option maxHeartbeats 1000000 in
theorem candidates_call (a0 : Option Addr) (n ca : Nat) (A : Nat → Option Addr) (C : Nat → Nat) (L : Nat → Bm) (a1 : Option Addr) (m cb : Nat) (A1 : Nat → Option Addr) (C1 : Nat → Nat) (R : Nat → List Int) (len stop : Int) (w : World)
    (h0 : BmAt w a0 n A C L) (h1 : Grid w a1 m A1 C1 R) (hcb : m ≤ cb) (hm : m = liveTo L n) (hR : ∀ r, r < m → 0 < (R r).length ∧ (R r).length ≤ 1000) (hn : n ≤ 1000) (hT : ∀ r, r < n → (L r).t.length ≤ 1000000) :
    Calls Try.prog 21 #[.slice a0 n ca, .slice a1 m cb, .int .i64 len, .int .i64 stop] w fun e w' => (∃ v, e = .returned v ∧ w'.ownsRow w.heap.size 55 5 v (candTo L R len stop n).length ((candTo L R len stop n).flatMap (cdC A C L))) ∧ Below w.heap.size w w' := by
  obtain ⟨i0, hi, hz0, hz1, hz2⟩ := info_parts info55
  have hbnd : ∀ i, i ≤ n → (candTo L R len stop i).length ≤ 1000000 := fun i hi => by
    have := candTo_count L R len stop i 1000 (fun j hj hf => (hR _ (by rw [hm]; exact liveTo_live L (by omega) hf)).2) (by decide)
    omega
  have HM : Hid (m = liveTo L n) := hm
  have HR : Hid (∀ r, r < m → 0 < (R r).length ∧ (R r).length ≤ 1000) := hR
  have HT : Hid (∀ r, r < n → (L r).t.length ≤ 1000000) := hT
  have HB : Hid (∀ i, i ≤ n → (candTo L R len stop i).length ≤ 1000000) := hbnd
  have H0 : Hid (BmAt w a0 n A C L) := h0
  have H1 : Hid (Grid w a1 m A1 C1 R) := h1
  have hmx := h0.max
  have hm1 := h1.max
  clear hm hR hT hbnd h0 h1
  go_enter Try.func21, Try.ntmps21
  go_wp2
  go_loopw [1, 9, 19] (fun sc v i wr => ∃ (k j q : Nat) (ax : Option Addr) (cx : Nat), k ≤ n ∧ i = .int .i64 k ∧ sc = .slice ax q cx ∧ q ≤ cx ∧ q ≤ 9223372036854775807 ∧ Hid (j = liveTo L k ∧ j + q = m) ∧ Hid (Grid w ax q (fun r => A1 (r + j)) (fun r => C1 (r + j)) (fun r => R (r + j))) ∧ Below w.heap.size w wr ∧ wr.ownsRow w.heap.size 55 5 v (candTo L R len stop k).length ((candTo L R len stop k).flatMap (cdC A C L))) (fun _ _ i _ => n - (intOf i).toNat)
  case atStart => exact ⟨0, 0, m, a1, cb, Nat.zero_le _, rfl, rfl, hcb, hm1, ⟨rfl, by omega⟩, H1.out, Below.refl _ _, World.ownsRow_nil _ _ _ _⟩
  case round =>
    obtain ⟨k, j, q, ax, cx, hk, rfl, rfl, hqc, hqm, HJ, HG, hbr, ho⟩ := hrel
    clear H1
    by_cases hlt : k < n
    · have hr := H0.out.below hbr
      obtain ⟨x, hx⟩ := H0.out.some_ (by omega)
      subst hx
      obtain ⟨y, ey, d0, d1, d2⟩ := hr.at3 hlt
      have kb := HB.out k hk
      have tl := HT.out k hlt
      have sb := (H0.out.wf k hlt)
      cases hf : (L k).f with
      | true =>
        have EN : Hid (liveTo L (k + 1) = liveTo L k) := by show liveTo L k + _ = _; rw [hf]; rfl
        have EC : Hid (candTo L R len stop (k + 1) = candTo L R len stop k ++ [⟨k, -1, (L k).s, true⟩]) := by show candTo L R len stop k ++ candOf L R len stop k = _; unfold candOf; rw [if_pos hf]
        have EQ : Hid (cdC A C L ⟨k, -1, (L k).s, true⟩ = [.slice (A k) (L k).t.length (C k), .int .i64 (L k).s, .bool true, .int .i64 (k : Nat), .int .i64 (-1)]) := show cdC A C L ⟨k, -1, (L k).s, true⟩ = _ from rfl
        rw [hf] at d2
        obtain ⟨CS, eCS⟩ : ∃ CS, candTo L R len stop k = CS := ⟨_, rfl⟩
        rw [eCS] at EC ho kb
        obtain ⟨K, eK⟩ : ∃ K, CS.length = K := ⟨_, rfl⟩
        rw [eK] at ho kb
        have HK : Hid (CS.length = K) := eK
        obtain ⟨T, eT⟩ : ∃ T, (L k).t.length = T := ⟨_, rfl⟩
        rw [eT] at d0 EQ tl
        obtain ⟨S, eS⟩ : ∃ S, (L k).s = S := ⟨_, rfl⟩
        rw [eS] at d1 EQ EC sb
        clear hf hr eCS eK eT eS
        have hos := hbr.size
        go_wp2_with (at_builtin; refine wpList_append_own_at _ rfl (.tmp 26) (.tmp 30) 51 rfl w.heap.size 55 i0 (.agg #[.slice none 0 0, .int .i64 0, .bool false, .int .i64 0, .int .i64 0]) 5 56 Try.underlying51 hi hz0 hz1 hz2 rfl (by decide) _ _ _ rfl ((ho.alloc _).alloc _) ⟨_, 0, none⟩ 1 1 [.slice (A k) T (C k), .int .i64 S, .bool true, .int .i64 (k : Nat), .int .i64 (-1)] rfl rfl (lit_newb _ _ _ _ (by simp)) (cell5 _ _ _ _ _ rfl rfl rfl rfl rfl) (by unfold maxLen; omega) (by omega) (by simp; omega) ?_; intro v2 w2 ho2 hg2 _ hs2)
        have hb2 : Below w.heap.size w w2 := (below_new (below_new hbr _) _).grown hg2 (by simp; omega) (fun g h => (ho.lt g h).1)
        go_roundw
        case rel => exact ⟨k + 1, j, q, ax, cx, by omega, by go_num, rfl, hqc, hqm, ⟨by rw [EN.out]; exact HJ.out.1, HJ.out.2⟩, HG.out, hb2, by rw [EC.out, List.length_append, HK.out, List.flatMap_append, cds_one, EQ.out]; exact ho2⟩
        case measure => simp [intOf]; omega
      | false =>
        have EN : Hid (liveTo L (k + 1) = liveTo L k + 1) := by show liveTo L k + _ = _; rw [hf]; rfl
        have hj := liveTo_live L hlt hf
        have hq : 0 < q := by have := HM.out; have := HJ.out; omega
        have EC : Hid (candTo L R len stop (k + 1) = candTo L R len stop k ++ grownTo (L k) k (R j) len stop (R j).length) := by show candTo L R len stop k ++ candOf L R len stop k = _; unfold candOf; rw [if_neg (by rw [hf]; decide), HJ.out.1]
        have rb := HR.out j (by have := HJ.out; omega)
        obtain ⟨x1, hx1⟩ := HG.out.some_ hq
        subst hx1
        have g0 := (HG.out.below hbr).cell x1 rfl 0 hq
        have g1 := (HG.out.below hbr).row 0 hq
        simp only [Nat.zero_add, Addr.add_zero'] at g0 g1
        obtain ⟨rl, erl⟩ : ∃ rl, (R j).length = rl + 1 := ⟨(R j).length - 1, by omega⟩
        rw [erl] at g0 g1 rb EC
        have kl := fun W hb => losses_call (A1 j) rl (C1 j) (R j) W (g1.below hb) (by omega)
        have LA : Hid (∀ t, t < rl + 1 → (lossL (R j)).getD t 0 = lossZ (R j) t) := show ∀ t, t < rl + 1 → _ from fun t ht => lossL_at (R j) (by omega)
        have LB : Hid (∀ t, t < rl + 1 → lossZ (R j) t ≤ 0) := show ∀ t, t < rl + 1 → _ from fun t ht => lossZ_le (R j) (by omega)
        rw [hf] at d2
        obtain ⟨CS, eCS⟩ : ∃ CS, candTo L R len stop k = CS := ⟨_, rfl⟩
        rw [eCS] at EC ho kb
        obtain ⟨K, eK⟩ : ∃ K, CS.length = K := ⟨_, rfl⟩
        rw [eK] at ho kb
        have HK : Hid (CS.length = K) := eK
        have HC : Hid (∀ t v f, cdC A C L ⟨k, t, v, f⟩ = [.slice (A k) (L k).t.length (C k), .int .i64 v, .bool f, .int .i64 (k : Nat), .int .i64 t]) := show ∀ t v f, cdC A C L ⟨k, t, v, f⟩ = _ from fun t v f => rfl
        obtain ⟨N1, eN1⟩ : ∃ N1, rl + 1 = N1 := ⟨_, rfl⟩
        rw [eN1] at g0 g1 rb EC kl LA LB
        have HS : Hid (∀ t, grownTo (L k) k (R j) len stop (t + 1) = grownTo (L k) k (R j) len stop t ++ [⟨k, (t : Int), clampZ (clampZ (L k).s + lossZ (R j) t), decide (len ≤ ((L k).t.length : Int) + 1) || decide ((t : Int) = stop)⟩]) := show ∀ t, _ = _ from fun t => grownTo_succ _ _ _ _ _ t
        obtain ⟨T, eT⟩ : ∃ T, (L k).t.length = T := ⟨_, rfl⟩
        rw [eT] at d0 HC tl HS
        obtain ⟨E, eE⟩ : ∃ E, decide (len ≤ (T : Int) + 1) = E := ⟨_, rfl⟩
        rw [eE] at HS
        have HE : Hid (decide (len ≤ (T : Int) + 1) = E) := eE
        have HL : Hid (∀ t, (grownTo (L k) k (R j) len stop t).length = t) := show ∀ t, _ = _ from fun t => grownTo_length _ _ _ _ _ t
        have Z0 : Hid (grownTo (L k) k (R j) len stop 0 = []) := show _ = _ from rfl
        obtain ⟨Gr, eG⟩ : ∃ Gr, grownTo (L k) k (R j) len stop = Gr := ⟨_, rfl⟩
        rw [eG] at EC HS HL Z0
        obtain ⟨S, eS⟩ : ∃ S, (L k).s = S := ⟨_, rfl⟩
        rw [eS] at d1 HS sb
        clear hf hr eCS eK eT eS eG erl
        have hos := hbr.size
        have g0' : (wr.alloc (.cells #[.slice (A k) T (C k), .int .i64 S, .bool false] 40)).cell? x1 = some (.slice (A1 j) N1 (C1 j)) := alloc_keep _ _ _ _ g0
        have hgv : Hid (∀ g, u9.ownBlock = some g → g < wr.heap.size) := show ∀ g, u9.ownBlock = some g → g < wr.heap.size from fun g h => (ho.lt g h).2
        obtain ⟨v0, ev0⟩ : ∃ v0, u9 = v0 := ⟨_, rfl⟩
        subst ev0
        have hbx : Hid (∀ W, Below (wr.alloc (.cells #[.slice (A k) T (C k), .int .i64 S, .bool false] 40)).heap.size (wr.alloc (.cells #[.slice (A k) T (C k), .int .i64 S, .bool false] 40)) W → W.cell? ⟨wr.heap.size, 0, none⟩ = some (.slice (A k) T (C k)) ∧ W.cell? ⟨wr.heap.size, 1, none⟩ = some (.int .i64 S)) := show ∀ W, _ → _ from fun W hW => ⟨(hW.cell (by simp)).trans (by simp), (hW.cell (by simp)).trans (by simp)⟩
        go_wp2_with (first
          | (go_at_call 33; refine (kl _ (below_new (Below.refl _ _) _)).mono ?_; rintro e W1 ⟨⟨al, cl, rfl, rdl, hnl⟩, hb3⟩))
        have hbW : Below w.heap.size w W1 := below_then (below_new hbr _) hb3
        have hoW := own_below3 (ho.alloc (.cells #[.slice (A k) T (C k), .int .i64 S, .bool false] 40)) hb3
        obtain ⟨bx0, bx1⟩ := hbx.out W1 hb3
        have HX : Hid (∀ x, al = some x → u9.ownBlock ≠ some x.block) := show ∀ x, al = some x → u9.ownBlock ≠ some x.block from fun x hx e => by
          have h2 := hnl x hx
          have h3 := hgv.out _ e
          simp at h2
          omega
        have HX2 : Hid (u9.ownBlock ≠ some wr.heap.size) := show u9.ownBlock ≠ some wr.heap.size from fun e => by
          have h3 := hgv.out _ e
          omega
        have hsW := hb3.size
        obtain ⟨WB, eWB⟩ : ∃ WB, wr.heap.size = WB := ⟨_, rfl⟩
        rw [eWB] at bx0 bx1 HX2 ⊢
        have HWB : Hid (wr.heap.size = WB) := eWB
        clear eWB
        clear hnl hb3 ho kl g0 g0' g1 d0 d1 d2 hgv hbx ey
        have HP : Hid (Past W1 u9 W1 u9) := Past.refl W1 u9
        go_loopw [9, 43] (fun v s wr2 => ∃ t : Nat, t ≤ N1 ∧ s = .int .i64 t ∧ wr2.ownsRow w.heap.size 55 5 v (K + t) (CS.flatMap (cdC A C L) ++ (Gr t).flatMap (cdC A C L)) ∧ Below w.heap.size w wr2 ∧ Hid (Past W1 u9 wr2 v)) (fun _ s _ => N1 - (intOf s).toNat)
        case atStart => exact ⟨0, Nat.zero_le _, rfl, by rw [Z0.out]; simpa using hoW, hbW, HP⟩
        case round =>
          obtain ⟨t, ht, rfl, ho4, hb4, P4⟩ := hrel
          clear hoW hbW HP hbr hos
          by_cases hlt4 : t < N1
          · have rd4 := P4.out.reads rdl HX.out
            obtain ⟨xl, hxl⟩ := rdl.some_ (by omega)
            subst hxl
            have cl0 := rd4.cell xl rfl t hlt4
            rw [LA.out t hlt4] at cl0
            have by0 := P4.out.keep _ _ bx0 HX2.out
            have by1 := P4.out.keep _ _ bx1 HX2.out

            have kc0 := fun W => clamp_call S W
            have kc1 := fun W => clamp_call (clampZ S + lossZ (R j) t) W
            have cb0 := clampZ_bounds S
            have lb0 := lossZ_bounds (R j) t
            have HV : Hid (Gr (t + 1) = Gr t ++ [⟨k, (t : Int), clampZ (clampZ S + lossZ (R j) t), E || decide ((t : Int) = stop)⟩]) := HS.out t
            obtain ⟨B0, eB0⟩ : ∃ B0, clampZ S = B0 := ⟨_, rfl⟩
            obtain ⟨F0, eF0⟩ : ∃ F0, lossZ (R j) t = F0 := ⟨_, rfl⟩
            rw [eB0] at kc0 kc1 cb0 HV
            rw [eF0] at kc1 lb0 HV cl0
            obtain ⟨V0, eV0⟩ : ∃ V0, clampZ (B0 + F0) = V0 := ⟨_, rfl⟩
            rw [eV0] at kc1 HV
            obtain ⟨cb1, cb2⟩ := cb0
            obtain ⟨lb1, lb2⟩ := lb0
            have hos4 := hb4.size
            clear eB0 eF0 eV0

            have aw0 : ∀ o, (wr.alloc o).cell? ⟨WB, 0, none⟩ = some (.slice (A k) T (C k)) := fun o => alloc_keep _ _ _ _ by0
            clear rd4 bx0 bx1
            cases E with
            | true =>
              have HE2 : Hid ((true || decide ((t : Int) = stop)) = true) := show _ = _ from rfl
              rw [HE2.out] at HV
              go_wp2_with (first
                | (go_at_call 34; refine (kc0 _).mono ?_; rintro e w' ⟨rfl, h⟩; obtain rfl := h.symm; clear kc0)
                | (go_at_call 34; refine (kc1 _).mono ?_; rintro e w' ⟨rfl, h⟩; obtain rfl := h.symm)
                | (at_builtin; refine wpList_append_own_at _ rfl (.tmp 64) (.tmp 69) 51 rfl w.heap.size 55 i0 (.agg #[.slice none 0 0, .int .i64 0, .bool false, .int .i64 0, .int .i64 0]) 5 56 Try.underlying51 hi hz0 hz1 hz2 rfl (by decide) _ _ _ rfl ((ho4.alloc _).alloc _) ⟨_, 0, none⟩ 1 1 [.slice (A k) T (C k), .int .i64 V0, .bool true, .int .i64 (k : Nat), .int .i64 (t : Nat)] rfl rfl (lit_newb _ _ _ _ (by simp)) (cell5 _ _ _ _ _ rfl rfl rfl rfl rfl) (by unfold maxLen; omega) (by omega) (by simp; omega) ?_; intro v5 w5 ho5 hg5 _ hs5))
              have hb5 : Below w.heap.size w w5 := (below_new (below_new hb4 _) _).grown hg5 (by simp; omega) (fun g h => (ho4.lt g h).1)
              have P5 := P4.out.app (fun p u h => alloc_keep _ _ _ _ (alloc_keep _ _ _ _ h)) (by simp; omega) hg5 hs5
              go_roundw
              case rel => exact ⟨t + 1, by omega, by go_num, by rw [HV.out, List.flatMap_append, cds_one, HC.out, ← List.append_assoc]; exact ho5, hb5, P5⟩
              case measure => simp [intOf]; omega
            | false =>
              by_cases hst : (t : Int) = stop
              · have HE2 : Hid ((false || decide ((t : Int) = stop)) = true) := show (false || decide ((t : Int) = stop)) = true by simp [hst]
                rw [HE2.out] at HV
                have hst' : ((t : Int) == stop) = true := by simp [hst]
                have HST : Hid ((t : Int) = stop) := hst
                clear hst
                go_wp2_with (first
                  | (go_at_call 34; refine (kc0 _).mono ?_; rintro e w' ⟨rfl, h⟩; obtain rfl := h.symm; clear kc0)
                  | (go_at_call 34; refine (kc1 _).mono ?_; rintro e w' ⟨rfl, h⟩; obtain rfl := h.symm)
                  | (at_builtin; refine wpList_append_own_at _ rfl (.tmp 64) (.tmp 69) 51 rfl w.heap.size 55 i0 (.agg #[.slice none 0 0, .int .i64 0, .bool false, .int .i64 0, .int .i64 0]) 5 56 Try.underlying51 hi hz0 hz1 hz2 rfl (by decide) _ _ _ rfl ((ho4.alloc _).alloc _) ⟨_, 0, none⟩ 1 1 [.slice (A k) T (C k), .int .i64 V0, .bool true, .int .i64 (k : Nat), .int .i64 (t : Nat)] rfl rfl (lit_newb _ _ _ _ (by simp)) (cell5 _ _ _ _ _ rfl rfl rfl rfl rfl) (by unfold maxLen; omega) (by omega) (by simp; omega) ?_; intro v5 w5 ho5 hg5 _ hs5))
                have hb5 : Below w.heap.size w w5 := (below_new (below_new hb4 _) _).grown hg5 (by simp; omega) (fun g h => (ho4.lt g h).1)
                have P5 := P4.out.app (fun p u h => alloc_keep _ _ _ _ (alloc_keep _ _ _ _ h)) (by simp; omega) hg5 hs5
                go_roundw
                case rel => exact ⟨t + 1, by omega, by go_num, by rw [HV.out, List.flatMap_append, cds_one, HC.out, ← List.append_assoc]; exact ho5, hb5, P5⟩
                case measure => simp [intOf]; omega
              · have HE2 : Hid ((false || decide ((t : Int) = stop)) = false) := show (false || decide ((t : Int) = stop)) = false by simp [hst]
                rw [HE2.out] at HV
                have hst' : ((t : Int) == stop) = false := by simp [hst]
                go_wp2_with (first
                  | (go_at_call 34; refine (kc0 _).mono ?_; rintro e w' ⟨rfl, h⟩; obtain rfl := h.symm; clear kc0)
                  | (go_at_call 34; refine (kc1 _).mono ?_; rintro e w' ⟨rfl, h⟩; obtain rfl := h.symm)
                  | (at_builtin; refine wpList_append_own_at _ rfl (.tmp 64) (.tmp 69) 51 rfl w.heap.size 55 i0 (.agg #[.slice none 0 0, .int .i64 0, .bool false, .int .i64 0, .int .i64 0]) 5 56 Try.underlying51 hi hz0 hz1 hz2 rfl (by decide) _ _ _ rfl ((ho4.alloc _).alloc _) ⟨_, 0, none⟩ 1 1 [.slice (A k) T (C k), .int .i64 V0, .bool false, .int .i64 (k : Nat), .int .i64 (t : Nat)] rfl rfl (lit_newb _ _ _ _ (by simp)) (cell5 _ _ _ _ _ rfl rfl rfl rfl rfl) (by unfold maxLen; omega) (by omega) (by simp; omega) ?_; intro v5 w5 ho5 hg5 _ hs5))
                have hb5 : Below w.heap.size w w5 := (below_new (below_new hb4 _) _).grown hg5 (by simp; omega) (fun g h => (ho4.lt g h).1)
                have P5 := P4.out.app (fun p u h => alloc_keep _ _ _ _ (alloc_keep _ _ _ _ h)) (by simp; omega) hg5 hs5
                go_roundw
                case rel => exact ⟨t + 1, by omega, by go_num, by rw [HV.out, List.flatMap_append, cds_one, HC.out, ← List.append_assoc]; exact ho5, hb5, P5⟩
                case measure => simp [intOf]; omega
          · obtain rfl : t = N1 := by omega
            have hq1 : (1 : Int) ≤ (q : Int) := by omega
            clear LA LB HS HX HX2 P4 rdl bx0 bx1 HWB
            have hb6 := hb4
            clear hb4
            go_wp2
            obtain ⟨q', rfl⟩ : ∃ q', q = q' + 1 := ⟨q - 1, by omega⟩
            refine ⟨⟨k + 1, j + 1, q', _, cx - 1, by omega, by go_num, rfl, by omega, by omega, ⟨by rw [EN.out, ← HJ.out.1], by have := HJ.out.2; omega⟩, ?_, hb6, ?_⟩, by simp [intOf]; omega⟩
            · refine (HG.out.rest (fun h => ?_)).congr (fun r _ => ?_) (fun r _ => ?_) (fun r _ => ?_)
              · rw [if_neg (by omega)]
                rfl
              · show A1 (r + 1 + j) = A1 (r + (j + 1))
                congr 1
                omega
              · show C1 (r + 1 + j) = C1 (r + (j + 1))
                congr 1
                omega
              · show R (r + 1 + j) = R (r + (j + 1))
                congr 1
                omega
            · rw [EC.out, List.length_append, HK.out, HL.out, List.flatMap_append]
              exact ho4
    · obtain rfl : k = n := by omega
      go_wp2
      go_ret
      exact ⟨⟨_, rfl, ho⟩, hbr⟩

end Go.Proofs.Yteeljnibglnflaa

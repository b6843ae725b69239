/- What the document's Choose gives back: the contract of the call, in the same words as the program's. -/
import Derived.Test.YtkoifogkdbhpcaaRows
import Derived.Test.YtkoifogkdbhpcaaSat
import Derived.Test.YtkoifogkdbhpcaaSatRef
import Derived.Test.YtkoifogkdbhpcaaView
import Derived.Test.YtkoifogkdbhpcaaOwn
import Derived.Test.YtkoifogkdbhpcaaSoft
import Derived.Test.YtkoifogkdbhpcaaSoftRef
import Derived.Test.YtkoifogkdbhpcaaRefTop
import Derived.Test.YtkoifogkdbhpcaaDrZ
import Derived.Test.YtkoifogkdbhpcaaDrParts
import Derived.Test.YtkoifogkdbhpcaaDrChoose
import Derived.WalkKit
import Derived.ProofKit
import Derived.OpenShut
import Derived.WalkLawsBesides
import Derived.Below
import Derived.Deep.QuietTactic
import Derived.BigQuiet
namespace Go.Proofs.Ytkoifogkdbhpcaa
open Go.ChangeShapes Go.WideShapes Go.ChangeAt Go.RowKit
set_option maxRecDepth 20000
set_option linter.unusedVariables false

theorem cool_reads {xs : List Int} {h : Int} {m : Nat} {w : World} {B : Nat} {v : Value} (ho : w.ownsRow B 2 1 v m (gath (coolF xs h) .i64 m)) : ∃ a c, v = .slice a m c ∧ Reads .i64 w a m (coolZ xs h m) :=
  own_reads ho (by simp [coolZ]) (fun z hz => by obtain ⟨y, _, rfl⟩ := List.mem_map.1 hz; exact wf_divZ _ _) fun j hj => by
    rw [gath_at _ _ _ _ hj]; unfold coolZ; rw [getD_range _ _ _ hj]

set_option maxHeartbeats 1000000 in
theorem refChoose_call (a0 : Option Addr) (n c0 : Nat) (xs : List Int) (k h u : Int) (w : World) (h0 : Reads .i64 w a0 n xs) (hn : n ≤ 1000000) (wh : (Lit.int .i64 h).wf = true) (wu : (Lit.int .u64 u).wf = true) :
    Calls Try.prog 13 #[.slice a0 n c0, .int .i64 k, .int .i64 h, .int .u64 u] w fun e w' => e = .returned (.int .i64 (chooseZ xs k h u)) ∧ Below w.heap.size w w' := by
  by_cases hk : h < 1 ∨ k < 2
  · rw [choose_max hk]
    have km := refMax_call a0 n c0 xs w h0 (by omega)
    obtain ⟨M, eM⟩ : ∃ M, maxZ xs = M := ⟨_, rfl⟩
    rw [eM] at km ⊢
    clear eM
    by_cases hh : h < 1
    · clear hk
      go_enter Try.func13, Try.ntmps13
      go_wp2_with (go_at_call 16; refine km.mono ?_; rintro e w' ⟨rfl, hb⟩)
      all_goals (try (exfalso; omega))
      all_goals (go_ret; exact ⟨rfl, hb⟩)
    · have hk2 : k < 2 := by omega
      clear hk
      go_enter Try.func13, Try.ntmps13
      go_wp2_with (go_at_call 16; refine km.mono ?_; rintro e w' ⟨rfl, hb⟩)
      all_goals (try (exfalso; omega))
      all_goals (go_ret; exact ⟨rfl, hb⟩)
  · obtain ⟨i0, hi, hz0, hz1, hz2⟩ := info_parts info2
    have hl := h0.len
    obtain ⟨m, hm⟩ : ∃ m, m = min k.toNat n := ⟨_, rfl⟩
    have hmx : m = min k.toNat xs.length := by rw [hl]; exact hm
    have hmn : m ≤ n := by omega
    have kt := refTop_call a0 n c0 xs k w h0 (by omega)
    rw [← hm] at kt
    have h1 : 1 ≤ h := by omega
    have h2 : 2 ≤ k := by omega
    have bu := bounds_u64 wu
    have hf := soft_fair (coolZ xs h m) m
    have hpl : ∀ j, j < m → (pickZ xs k).getD j 0 = ((places xs).getD j 0 : Nat) ∧ (places xs).getD j 0 < n := fun j hj =>
      ⟨topZ_at xs k j (by omega), by rw [← hl]; exact (places_ordered xs).lt (by omega)⟩
    have Cn : Hid (upTo (shZ xs h m) m = 0 → chooseZ xs k h u = maxZ xs) := fun hs => choose_none hmx hk hs
    have Cs : Hid (¬upTo (shZ xs h m) m = 0 → chooseZ xs k h u = ((places xs).getD (seatZ (shZ xs h m) m (u % upTo (shZ xs h m) m)) 0 : Nat)) := fun hs => choose_some hmx hk hs
    have Pl : Hid (∀ j, j < m → (pickZ xs k).getD j 0 = ((places xs).getD j 0 : Nat) ∧ (places xs).getD j 0 < n) := hpl
    have Hf : Hid (Fair (shZ xs h m)) := hf
    obtain ⟨CH, eCH⟩ : ∃ CH, chooseZ xs k h u = CH := ⟨_, rfl⟩
    rw [eCH] at Cn Cs ⊢
    clear hpl hf hk hmx hm eCH
    go_enter Try.func13, Try.ntmps13
    go_wp2_with (go_at_call 25; refine kt.mono ?_; rintro e w1 ⟨⟨a, c, rfl, r1, -, -⟩, hb1⟩)
    all_goals (try (exfalso; omega))
    go_loopw [10, 11] (fun v i wr => ∃ j : Nat, j ≤ m ∧ i = .int .i64 j ∧ Below w.heap.size w wr ∧ Below w1.heap.size w1 wr ∧ wr.ownsRow w1.heap.size 2 1 v j (gath (coolF xs h) .i64 j)) (fun _ i _ => m - (intOf i).toNat)
    case atStart => exact ⟨0, Nat.zero_le _, rfl, hb1, Below.refl _ _, World.ownsRow_nil _ _ _ _⟩
    case round =>
      obtain ⟨j, hj, rfl, hbr, hbr1, ho⟩ := hrel
      by_cases hlt : j < m
      · have rx := h0.below hbr
        have ry := r1.below hbr1
        obtain ⟨y, rfl⟩ := r1.some_ (by omega)
        have cy := ry.cell y rfl j hlt
        obtain ⟨ep, lp⟩ := Pl.out j hlt
        obtain ⟨x, rfl⟩ := h0.some_ (by omega)
        rw [ep] at cy
        have cx := rx.cell x rfl ((places xs).getD j 0) lp
        have kd := fun W => refDiv_call (xs.getD ((places xs).getD j 0) 0) h (h0.wf _) wh W
        have ed : divZ (xs.getD ((places xs).getD j 0) 0) h = coolF xs h j := rfl
        rw [ed] at kd
        obtain ⟨D, eD⟩ : ∃ D, coolF xs h j = D := ⟨_, rfl⟩
        rw [eD] at kd
        have Ez : Hid (D = coolF xs h j) := eD.symm
        obtain ⟨X, eX⟩ : ∃ X, xs.getD ((places xs).getD j 0) 0 = X := ⟨_, rfl⟩
        rw [eX] at cx kd
        obtain ⟨P, eP⟩ : ∃ P, (places xs).getD j 0 = P := ⟨_, rfl⟩
        rw [eP] at cx cy lp
        have hsz := hbr1.size
        have hsw := hb1.size
        clear ed eD eX eP ep rx ry kt
        go_wp2_with (first
          | (go_at_call 26; refine (kd _).mono ?_; rintro e w' ⟨rfl, h⟩; obtain rfl := h.symm)
          | (at_builtin; refine wpList_append_own _ rfl (.tmp 34) (.tmp 44) 29 rfl w1.heap.size 2 i0 (.int .i64 0) 1 8 Try.underlying29 hi hz0 hz1 hz2 rfl (by decide) _ _ _ rfl (ho.alloc _) ⟨_, 0, none⟩ 1 1 [.int .i64 D] rfl rfl (one_new _ _ _) (one_oneCell _ _) (by unfold maxLen; omega) (by omega) (by simp; omega) ?_; intro v' w2 ho' hg _))
        have st := append_step hsz Ez.out hbr1 ho ho' hg
        go_roundw
        case rel => exact ⟨j + 1, by omega, by go_num, below_then hb1 st.1, st.1, st.2⟩
        case measure => simp [intOf]; omega
      · have e : j = m := by omega
        subst e
        obtain ⟨a2, c2, rfl, r2⟩ := cool_reads ho
        have ks := refSoft_call a2 j c2 (coolZ xs h j) _ r2 (by omega)
        clear ho kt hi hz0 hz1 hz2
        go_wp2_with (go_at_call 27; refine ks.mono ?_; rintro e w3 ⟨⟨a3, c3, rfl, r3⟩, hb3⟩)
        have hb13 := below_then hbr hb3
        have rp : Reads .i64 w3 a j (pickZ xs k) := r1.below (below_then hbr1 hb3)
        have r03 := h0.below hb13
        have hm3 := r3.max
        clear ks r2 hbr hbr1 hb3 hb1 r1
        have rq : Reads .i64 w3 a3 j (shZ xs h j) := r3
        clear r3
        have hf := Hf.out
        obtain ⟨p, ep⟩ : ∃ p, shZ xs h j = p := ⟨_, rfl⟩
        rw [ep] at rq Cn Cs hf
        clear ep Hf
        go_loopw [13, 14] (fun s i wr => ∃ t : Nat, t ≤ j ∧ i = .int .i64 t ∧ s = .int .u64 (upTo p t) ∧ wr = w3) (fun _ i _ => j - (intOf i).toNat)
        case atStart => exact ⟨0, Nat.zero_le _, rfl, rfl, rfl⟩
        case round =>
          obtain ⟨t, ht, rfl, rfl, hw⟩ := hrel
          obtain rfl := hw.symm
          by_cases hlt : t < j
          · obtain ⟨z, rfl⟩ := rq.some_ (by omega)
            have cz := rq.cell z rfl t hlt
            have es := upTo_succ p t
            have b := upTo_bounds hf t
            have bz := hf t
            obtain ⟨Z, eZ⟩ : ∃ Z, p.getD t 0 = Z := ⟨_, rfl⟩
            obtain ⟨S, eS⟩ : ∃ S, upTo p t = S := ⟨_, rfl⟩
            rw [eZ] at cz es bz
            rw [eS] at es b ⊢
            have e1 : IntKind.u64.wrap (S + IntKind.u64.wrap Z) = S + Z := by rw [wrap_small bz.1 (by omega), wrap_small (by omega) (by omega)]
            have Es : Hid (upTo p (t + 1) = S + Z) := es
            have E1 : Hid (IntKind.u64.wrap (S + IntKind.u64.wrap Z) = S + Z) := e1
            clear eZ eS es e1 bz b
            go_wp2
            all_goals
              go_roundw
              case rel => exact ⟨t + 1, by omega, by go_num, by rw [Es.out, E1.out], trivial⟩
              case measure => simp [intOf]; omega
          · have e : t = j := by omega
            subst e
            have hbS := upTo_bounds hf t
            by_cases hs : upTo p t = 0
            · have km := refMax_call a0 n c0 xs _ r03 (by omega)
              rw [← Cn.out hs] at km
              rw [hs]
              clear hs hbS
              go_wp2_with (go_at_call 16; refine km.mono ?_; rintro e w5 ⟨rfl, hb5⟩)
              all_goals (try (exfalso; omega))
              all_goals (go_ret; exact ⟨rfl, below_then hb13 hb5⟩)
            · have hS : 0 < upTo p t := by omega
              have hr0 : 0 ≤ u % upTo p t := Int.emod_nonneg _ (by omega)
              have hr1 : u % upTo p t < upTo p t := Int.emod_lt_of_pos _ hS
              have tm : u.tmod (upTo p t) = u % upTo p t := Int.tmod_eq_emod_of_nonneg bu.1
              have hse : seatZ p t (u % upTo p t) < t := seat_lt hf hr0 hr1
              have cs := Cs.out hs
              obtain ⟨r, er⟩ : ∃ r, u % upTo p t = r := ⟨_, rfl⟩
              rw [er] at hr0 hr1 tm hse cs
              have R1 : Hid (r < upTo p t) := hr1
              have CS : Hid (CH = ((places xs).getD (seatZ p t r) 0 : Nat)) := cs
              obtain ⟨S, eS⟩ : ∃ S, upTo p t = S := ⟨_, rfl⟩
              rw [eS] at hbS hS tm hr1 ⊢
              have hm0 : 0 < t := by omega
              obtain ⟨z, rfl⟩ := rq.some_ hm0
              obtain ⟨y, rfl⟩ := rp.some_ hm0
              clear er eS hs Cn Cs cs
              go_wp2
              all_goals (try (exfalso; omega))
              go_loopw [15, 16] (fun l i wr => ∃ g : Nat, g < t ∧ i = .int .i64 g ∧ (∃ q : Int, l = .int .u64 q ∧ q = r - upTo p g ∧ 0 ≤ q) ∧ wr = w3) (fun _ i _ => t - (intOf i).toNat)
              case atStart => exact ⟨0, hm0, rfl, ⟨r, (by first | rfl | rw [tm]), by show r = r - 0; omega, hr0⟩, rfl⟩
              case round =>
                obtain ⟨g, hg, rfl, ⟨q, rfl, eq, q0⟩, hw⟩ := hrel
                obtain rfl := hw.symm
                have cz := rq.cell z rfl g hg
                have cy := rp.cell y rfl g hg
                rw [(Pl.out g hg).1] at cy
                have es := upTo_succ p g
                have b := upTo_bounds hf g
                have bz := hf g
                have so := fun (h : upTo p g ≤ r) (h' : r < upTo p (g + 1)) => seat_of hf hg h h'
                have nx : upTo p (g + 1) ≤ r → g + 1 < t := fun h => by
                  by_cases e : g + 1 = t
                  · have := R1.out
                    rw [e] at h
                    omega
                  · omega
                obtain ⟨Z, eZ⟩ : ∃ Z, p.getD g 0 = Z := ⟨_, rfl⟩
                rw [eZ] at cz es bz
                have eZw : IntKind.u64.wrap Z = Z := wrap_small bz.1 (by omega)
                by_cases hq : Z ≤ q
                · have nx' := nx (by omega)
                  have eW : IntKind.u64.wrap (q - Z) = q - Z := wrap_small (by omega) (by omega)
                  have Rq : Hid (q - Z = r - upTo p (g + 1) ∧ 0 ≤ q - Z) := ⟨by omega, by omega⟩
                  clear es b so nx eq eZ cy
                  go_wp2
                  all_goals (try (exfalso; omega))
                  all_goals
                    go_roundw
                    case rel => exact ⟨g + 1, nx', by go_num, ⟨_, rfl, Rq.out.1, Rq.out.2⟩, trivial⟩
                    case measure => simp [intOf]; omega
                · have so' := so (by omega) (by omega)
                  have cs := CS.out
                  rw [so'] at cs
                  obtain ⟨P, eP⟩ : ∃ P, (places xs).getD g 0 = P := ⟨_, rfl⟩
                  rw [eP] at cy cs
                  clear es b so nx eq eZ eP so' CS
                  go_wp2
                  all_goals (try (exfalso; omega))
                  go_ret
                  exact ⟨ret_int (by first | rfl | exact cs.symm), hb13⟩

end Go.Proofs.Ytkoifogkdbhpcaa

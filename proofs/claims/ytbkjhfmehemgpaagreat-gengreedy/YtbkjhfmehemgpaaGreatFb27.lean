/- Texts put together. -/
import Derived.Test.YtbkjhfmehemgpaaGreatFb21
import Derived.Test.YtbkjhfmehemgpaaGreatFb22
import Derived.Test.YtbkjhfmehemgpaaGreatFb23
import Derived.Lib.MinMax
namespace Go.Proofs.YtbkjhfmehemgpaaGreat
set_option maxRecDepth 20000
set_option maxHeartbeats 16000000
open Go.ChangeShapes Go.WideShapes Go.ChangeAt Go.RowKit
set_option linter.unusedVariables false
set_option linter.unusedSimpArgs false
theorem choose_max {xs:List Int}{k h u:Int}(hh:h<1∨k<2):chooseZ xs k h u=maxZ xs:=by
 unfold chooseZ;rw[if_pos hh]
theorem choose_none {xs:List Int}{k h u:Int}{m:Nat}(hm:m=min k.toNat xs.length)(hh:¬(h<1∨k<2))(hs:upTo (shZ xs h m) m=0):chooseZ xs k h u=maxZ xs:=by
 subst hm
 unfold chooseZ manyZ;rw[if_neg hh,if_pos hs]
theorem choose_some {xs:List Int}{k h u:Int}{m:Nat}(hm:m=min k.toNat xs.length)(hh:¬(h<1∨k<2))(hs:¬upTo (shZ xs h m) m=0):chooseZ xs k h u=((places xs).getD (seatZ (shZ xs h m) m (u%upTo (shZ xs h m) m)) 0:Nat):=by
 subst hm
 unfold chooseZ manyZ;rw[if_neg hh,if_neg hs]
theorem choose_call (a0 : Option Addr) (n c0 : Nat) (xs : List Int) (k h u : Int) (w : World) (h0 : Reads .i64 w a0 n xs) (hn : n ≤ 1000000) (wh : (Lit.int .i64 h).wf = true) (wu : (Lit.int .u64 u).wf = true) :
    Calls Tryz.prog 88 #[.slice a0 n c0, .int .i64 k, .int .i64 h, .int .u64 u] w fun e w' => e = .returned (.int .i64 (chooseZ xs k h u)) ∧ Below w.heap.size w w' := by
  by_cases hk : h < 1 ∨ k < 2
  · rw [choose_max hk]
    have km := max_call a0 n c0 xs w h0
    obtain ⟨M, eM⟩ : ∃ M, maxZ xs = M := ⟨_, rfl⟩
    rw [eM] at km ⊢
    clear eM
    by_cases hh : h < 1
    · clear hk
      go_enter Tryz.func88, Tryz.ntmps88
      go_wp2_with (go_at_call 86; refine km.mono ?_; rintro e w' ⟨rfl, hb⟩)
      all_goals (try (exfalso; omega))
      all_goals (go_ret; exact ⟨rfl, hb⟩)
    · have hk2 : k < 2 := by omega
      clear hk
      go_enter Tryz.func88, Tryz.ntmps88
      go_wp2_with (go_at_call 86; refine km.mono ?_; rintro e w' ⟨rfl, hb⟩)
      all_goals (try (exfalso; omega))
      all_goals (go_ret; exact ⟨rfl, hb⟩)
  · have hl := h0.len
    obtain ⟨m, hm⟩ : ∃ m, m = min k.toNat n := ⟨_, rfl⟩
    have hmx : m = min k.toNat xs.length := by rw [hl]; exact hm
    have hmn : m ≤ n := by omega
    have kt := top_call a0 n c0 xs k w h0 (by omega)
    rw [← hm] at kt
    have h1 : 1 ≤ h := by omega
    have h2 : 2 ≤ k := by omega
    have bu := bounds_u64 wu
    have hf := soft_fair (coolZ xs h m) m
    have hpl : ∀ j, j < m → (pickZ xs k).getD j 0 = ((places xs).getD j 0 : Nat) ∧ (places xs).getD j 0 < n := fun j hj =>
      ⟨topZ_at xs k j (by omega), by rw [← hl]; exact (places_ordered xs).lt (by omega)⟩
    by_cases hs : upTo (shZ xs h m) m = 0
    · rw [choose_none hmx hk hs]
      have km := fun (W : World) (hW : Reads .i64 W a0 n xs) => max_call a0 n c0 xs W hW
      obtain ⟨M, eM⟩ : ∃ M, maxZ xs = M := ⟨_, rfl⟩
      rw [eM] at km ⊢
      have Pl : Hid (∀ j, j < m → (pickZ xs k).getD j 0 = ((places xs).getD j 0 : Nat) ∧ (places xs).getD j 0 < n) := hpl
      have Hs : Hid (upTo (shZ xs h m) m = 0) := hs
      have Hf : Hid (Fair (softZ (coolZ xs h m) m)) := hf
      clear eM hpl hs hf hk hmx hm
      go_enter Tryz.func88, Tryz.ntmps88
      go_wp2_with (first
        | (go_at_call 124; refine kt.mono ?_; rintro e w1 ⟨⟨a, c, rfl, r1, -, -⟩, hb1⟩
           have r0 := h0.below hb1
           have kc := cooled_call a0 n c0 xs a m c (pickZ xs k) (places xs) h w1 r0 r1 Pl.out wh (by omega))
        | (go_at_call 126; refine kc.mono ?_; rintro e w2 ⟨⟨a', c', rfl, r2⟩, hb2⟩
           have hb12 := bTn hb1 hb2
           have ks := soft_call a' m c' (coolZ xs h m) w2 r2 (by omega))
        | (go_at_call 125; refine ks.mono ?_; rintro e w3 ⟨⟨a3, c3, rfl, r3⟩, hb3⟩
           have hb13 := bTn hb12 hb3
           have k4 := total_call a3 m c3 (softZ (coolZ xs h m) m) w3 r3 Hf.out (by omega)
           have r03 := h0.below hb13
           rw [show upTo (softZ (coolZ xs h m) m) m = 0 from Hs.out] at k4)
        | (go_at_call 127; refine k4.mono ?_; rintro e w4 ⟨rfl, hw4⟩; obtain rfl := hw4.symm; clear hw4)
        | (go_at_call 86; refine (km _ r03).mono ?_; rintro e w5 ⟨rfl, hb5⟩
           have hbz := bTn hb13 hb5))
      all_goals (try (exfalso; omega))
      all_goals (go_ret; exact ⟨rfl, hbz⟩)
    · rw [choose_some hmx hk hs]
      have hbS := upTo_bounds hf m
      have hS : 0 < upTo (shZ xs h m) m := by
        have : 0 ≤ upTo (shZ xs h m) m := hbS.1
        omega
      have hS2 : upTo (shZ xs h m) m ≤ 2147483647 * (m : Int) := hbS.2
      have hr0 : 0 ≤ u % upTo (shZ xs h m) m := Int.emod_nonneg _ (by omega)
      have hr1 : u % upTo (shZ xs h m) m < upTo (shZ xs h m) m := Int.emod_lt_of_pos _ hS
      have hse : seatZ (shZ xs h m) m (u % upTo (shZ xs h m) m) < m := seat_lt hf hr0 hr1
      have kr := fun (a3 : Option Addr) (c3 : Nat) (W : World) (hW : Reads .i64 W a3 m (softZ (coolZ xs h m) m)) => reached_call a3 m c3 (softZ (coolZ xs h m) m) (u % upTo (shZ xs h m) m) W hW hf (by omega) hr0 hr1
      have k4 := fun (a3 : Option Addr) (c3 : Nat) (W : World) (hW : Reads .i64 W a3 m (softZ (coolZ xs h m) m)) => total_call a3 m c3 (softZ (coolZ xs h m) m) W hW hf (by omega)
      have e1 : upTo (softZ (coolZ xs h m) m) m = upTo (shZ xs h m) m := rfl
      have e2 : ∀ r, seatZ (softZ (coolZ xs h m) m) m r = seatZ (shZ xs h m) m r := fun _ => rfl
      simp only [e1] at k4
      simp only [e2] at kr
      have ca := fun (a : Option Addr) (W : World) (hW : Reads .i64 W a m (pickZ xs k)) (y : Addr) (hy : a = some y) => hW.cell y hy (seatZ (shZ xs h m) m (u % upTo (shZ xs h m) m)) hse
      rw [(hpl _ hse).1] at ca
      have tm : u.tmod (upTo (shZ xs h m) m) = u % upTo (shZ xs h m) m := Int.tmod_eq_emod_of_nonneg bu.1
      obtain ⟨q, eq⟩ : ∃ q, seatZ (shZ xs h m) m (u % upTo (shZ xs h m) m) = q := ⟨_, rfl⟩
      rw [eq] at hse kr ca ⊢
      obtain ⟨P, eP⟩ : ∃ P, (places xs).getD q 0 = P := ⟨_, rfl⟩
      rw [eP] at ca ⊢
      obtain ⟨S, eS⟩ : ∃ S, upTo (shZ xs h m) m = S := ⟨_, rfl⟩
      rw [eS] at k4 kr hS hr0 hr1 hS2 tm
      obtain ⟨r, er⟩ : ∃ r, u % S = r := ⟨_, rfl⟩
      rw [er] at kr hr0 hr1 tm
      have Pl : Hid (∀ j, j < m → (pickZ xs k).getD j 0 = ((places xs).getD j 0 : Nat) ∧ (places xs).getD j 0 < n) := hpl
      have hm0 : 0 < m := by omega
      clear e1 e2 eq eP eS er hpl hs hf hk hmx hm hbS
      go_enter Tryz.func88, Tryz.ntmps88
      go_wp2_with (first
        | (go_at_call 124; refine kt.mono ?_; rintro e w1 ⟨⟨a, c, rfl, r1, -, -⟩, hb1⟩
           have r0 := h0.below hb1
           obtain ⟨y, rfl⟩ := r1.some_ hm0
           have kc := cooled_call a0 n c0 xs (some y) m c (pickZ xs k) (places xs) h w1 r0 r1 Pl.out wh (by omega))
        | (go_at_call 126; refine kc.mono ?_; rintro e w2 ⟨⟨a', c', rfl, r2⟩, hb2⟩
           have hb12 := bTn hb1 hb2
           have ks := soft_call a' m c' (coolZ xs h m) w2 r2 (by omega))
        | (go_at_call 125; refine ks.mono ?_; rintro e w3 ⟨⟨a3, c3, rfl, r3⟩, hb3⟩
           have hb13 := bTn hb12 hb3
           have cy := ca (some y) w3 (r1.below (bTn hb2 hb3)) y rfl)
        | (go_at_call 127; refine (k4 _ _ _ r3).mono ?_; rintro e w4 ⟨rfl, hw4⟩; obtain rfl := hw4.symm; clear hw4)
        | (go_at_call 128; (first | rw [tm] | skip); refine (kr _ _ _ r3).mono ?_; rintro e w5 ⟨rfl, hw5⟩; obtain rfl := hw5.symm; clear hw5))
      all_goals (try (exfalso; omega))
      all_goals (go_ret; exact ⟨rfl, hb13⟩)
theorem lit_cells (w:World)(cs:Array Value)(t:TypeId)(j:Nat)(u:Value)(h:cs[j]? = some u):(w.alloc (.cells cs t)).cell? ⟨w.heap.size,j,none⟩=some u:=by
 simpa using h
theorem lit_new (w:World)(cs:List Value)(t:TypeId):∀ j u,cs[j]? = some u→(w.alloc (.cells cs.toArray t)).cell? ((⟨w.heap.size,0,none⟩:Addr).add j)=some u:=fun j u h=>by
 have:=lit_cells w cs.toArray t j u (by simpa using h)
 cases j with
 | zero=>simpa [Addr.add] using this
 | succ j=>simpa [Addr.add] using this
theorem beset3 {W:World}{b:Nat}{u0 u1 u2:Value}(h0:W.cell? ⟨b,0,none⟩=some u0)(h1:W.cell? ⟨b,1,none⟩=some u1)(h2:W.cell? ⟨b,2,none⟩=some u2)(v0 v1 v2:Value) :
  (((W.setCell ⟨b,0,none⟩ v0).setCell ⟨b,1,none⟩ v1).setCell ⟨b,2,none⟩ v2).cell? ⟨b,0,none⟩=some v0∧(((W.setCell ⟨b,0,none⟩ v0).setCell ⟨b,1,none⟩ v1).setCell ⟨b,2,none⟩ v2).cell? ⟨b,1,none⟩=some v1∧(((W.setCell ⟨b,0,none⟩ v0).setCell ⟨b,1,none⟩ v1).setCell ⟨b,2,none⟩ v2).cell? ⟨b,2,none⟩=some v2:=by
 have n01:(⟨b,0,none⟩:Addr)≠⟨b,1,none⟩:=by simp
 have n02:(⟨b,0,none⟩:Addr)≠⟨b,2,none⟩:=by simp
 have n12:(⟨b,1,none⟩:Addr)≠⟨b,2,none⟩:=by simp
 refine⟨?_,?_,?_⟩
 ·rw[World.cell?_setCell_other _ _ _ _ n02.symm,World.cell?_setCell_other _ _ _ _ n01.symm]
  exact World.cell?_setCell_same _ _ _ h0
 ·rw[World.cell?_setCell_other _ _ _ _ n12.symm]
  exact World.cell?_setCell_same _ _ _ ((World.cell?_setCell_other _ _ _ _ n01).trans h1)
 ·exact World.cell?_setCell_same _ _ _ ((World.cell?_setCell_other _ _ _ _ n12).trans ((World.cell?_setCell_other _ _ _ _ n02).trans h2))
theorem whole_call (a : Option Addr) (n c : Nat) (ts : List Int) (s : Int) (f : Bool) (p k : Int) (w : World) (h0 : Reads .i64 w a n ts) (hc : a = none → c = 0) (hk : (Lit.int .i64 k).wf = true) (hn : n ≤ 1000000) :
    Calls Tryz.prog 118 #[.agg #[.slice a n c, .int .i64 s, .bool f, .int .i64 p, .int .i64 k]] w fun e w' => (∃ a' c', e = .returned (.agg #[.slice a' (ts ++ if k = -1 then [] else [k]).length c', .int .i64 s, .bool f]) ∧ Reads .i64 w' a' (ts ++ if k = -1 then [] else [k]).length (ts ++ if k = -1 then [] else [k]) ∧ ((a' = none → c' = 0) ∧ (ts ++ if k = -1 then [] else [k]).length ≤ c') ∧ (∀ x, a' = some x → w.heap.size ≤ x.block)) ∧ Below w.heap.size w w' := by
  obtain ⟨i0, hi, hz0, hz1, hz2⟩ := info_parts info3
  have hm := h0.max
  have hl := h0.len
  obtain ⟨W0, eW0⟩ : ∃ W0, (w.alloc (.cells #[.slice a n c, .int .i64 s, .bool f, .int .i64 p, .int .i64 k] 164)).alloc (.cells #[.slice none 0 0, .int .i64 0, .bool false] 135) = W0 := ⟨_, rfl⟩
  have b0 : Below w.heap.size w W0 := by rw [← eW0]; exact bNw (bNw (Below.refl _ _) _) _
  have s0 : Hid (W0.heap.size = w.heap.size + 2) := by show W0.heap.size = _; rw [← eW0]; simp
  have boxc : ∀ W, Below W0.heap.size W0 W → W.cell? ⟨w.heap.size, 0, none⟩ = some (.slice a n c) ∧ W.cell? ⟨w.heap.size, 1, none⟩ = some (.int .i64 s) ∧ W.cell? ⟨w.heap.size, 2, none⟩ = some (.bool f) ∧ W.cell? ⟨w.heap.size, 4, none⟩ = some (.int .i64 k) := fun W hb => by
    have c : ∀ j, W.cell? ⟨w.heap.size, j, none⟩ = W0.cell? ⟨w.heap.size, j, none⟩ := fun j => hb.cell (by show w.heap.size < _; have := s0.out; omega)
    rw [c, c, c, c, ← eW0]
    simp
  have resc : ∀ W, Below W0.heap.size W0 W → W.heap[w.heap.size + 1]? = some (.cells #[.slice none 0 0, .int .i64 0, .bool false] 135 (0, 0)) := fun W hb => by
    refine (hb.block (w.heap.size + 1) (by have := s0.out; omega)).trans ?_
    rw [← eW0]
    have := heap_alloc_new (w.alloc (.cells #[.slice a n c, .int .i64 s, .bool f, .int .i64 p, .int .i64 k] 164)) (.cells #[.slice none 0 0, .int .i64 0, .bool false] 135)
    simpa using this
  obtain ⟨cx0, cx1, cx2, cx4⟩ := boxc W0 (Below.refl _ _)
  obtain ⟨N1, eN1⟩ : ∃ N1, n + 1 = N1 := ⟨_, rfl⟩
  have zN1 : (n : Int) + 1 = (N1 : Int) := by omega
  obtain ⟨T, eT⟩ : ∃ T, (ts ++ if k = -1 then [] else [k]) = T := ⟨_, rfl⟩
  rw [eT]
  have fin : ∀ (W : World) (v : Value), Below W0.heap.size W0 W → W.ownsRow W0.heap.size 3 1 v T.length (T.map (Value.int .i64)) → ∃ a' c', v = .slice a' T.length c' ∧ ∃ W', ((W.setCell ⟨w.heap.size + 1, 0, none⟩ (.slice a' T.length c')).setCell ⟨w.heap.size + 1, 1, none⟩ (.int .i64 s)).setCell ⟨w.heap.size + 1, 2, none⟩ (.bool f) = W' ∧
      Reads .i64 W' a' T.length T ∧ ((a' = none → c' = 0) ∧ T.length ≤ c') ∧ (∀ x, a' = some x → w.heap.size ≤ x.block) ∧ Below w.heap.size w W' ∧ W'.cell? ⟨w.heap.size + 1, 0, none⟩ = some (.slice a' T.length c') ∧ W'.cell? ⟨w.heap.size + 1, 1, none⟩ = some (.int .i64 s) ∧ W'.cell? ⟨w.heap.size + 1, 2, none⟩ = some (.bool f) := fun W v hb ho => by
    obtain ⟨a', c', rfl, rd⟩ := oRe (k := .i64) (zs := T) ho rfl (fun z hz => by
      rw [← eT] at hz
      rcases List.mem_append.1 hz with h | h
      · exact h0.wf_mem z h
      · split at h
        · cases h
        · rw [List.mem_singleton.1 h]; exact hk) (fun j hj => copy_at .i64 T j hj)
    have sz := s0.out
    have hge : ∀ x, a' = some x → W0.heap.size ≤ x.block := fun x hx => by
      subst hx
      exact (ho.lt x.block rfl).1
    have hc0 : W.cell? ⟨w.heap.size + 1, 0, none⟩ = some (.slice none 0 0) := by unfold World.cell?; rw [resc W hb]; rfl
    have hc1 : W.cell? ⟨w.heap.size + 1, 1, none⟩ = some (.int .i64 0) := by unfold World.cell?; rw [resc W hb]; rfl
    have hc2 : W.cell? ⟨w.heap.size + 1, 2, none⟩ = some (.bool false) := by unfold World.cell?; rw [resc W hb]; rfl
    refine ⟨a', c', rfl, _, rfl, ?_, ⟨own_none ho, own_cap ho⟩, fun x hx => by have := hge x hx; omega, ?_, ?_, ?_, ?_⟩
    · refine ⟨rd.len, rd.max, rd.wf, rd.some_, fun x hx i hi => ?_⟩
      have hb1 : (x.add i).block = x.block := by simp only [Addr.add]; split <;> rfl
      have hne : (x.add i).block ≠ w.heap.size + 1 := by have := hge x hx; omega
      rw [World.cell?_setCell_other _ _ _ _ (fun e => hne (by rw [← e])), World.cell?_setCell_other _ _ _ _ (fun e => hne (by rw [← e])), World.cell?_setCell_other _ _ _ _ (fun e => hne (by rw [← e]))]
      exact rd.cell x hx i hi
    · exact (((bTn b0 hb).setCell (by show w.heap.size ≤ w.heap.size + 1; omega) _).setCell (by show w.heap.size ≤ w.heap.size + 1; omega) _).setCell (by show w.heap.size ≤ w.heap.size + 1; omega) _
    · exact (beset3 hc0 hc1 hc2 _ _ _).1
    · exact (beset3 hc0 hc1 hc2 _ _ _).2.1
    · exact (beset3 hc0 hc1 hc2 _ _ _).2.2
  have resq : ∀ W, Below W0.heap.size W0 W → W.cell? ⟨w.heap.size + 1, 0, none⟩ = some (.slice none 0 0) ∧ W.cell? ⟨w.heap.size + 1, 1, none⟩ = some (.int .i64 0) ∧ W.cell? ⟨w.heap.size + 1, 2, none⟩ = some (.bool false) ∧ W.frozen? ⟨w.heap.size + 1, 0, none⟩ = false ∧ W.frozen? ⟨w.heap.size + 1, 1, none⟩ = false ∧ W.frozen? ⟨w.heap.size + 1, 2, none⟩ = false := fun W hb => by
    refine ⟨?_, ?_, ?_, ?_, ?_, ?_⟩
    · unfold World.cell?; rw [resc W hb]; rfl
    · unfold World.cell?; rw [resc W hb]; rfl
    · unfold World.cell?; rw [resc W hb]; rfl
    · unfold World.frozen?; rw [resc W hb]; rfl
    · unfold World.frozen?; rw [resc W hb]; rfl
    · unfold World.frozen?; rw [resc W hb]; rfl
  have FIN : Hid _ := fin
  have RES : Hid _ := resq
  have HE : Hid ((ts ++ if k = -1 then [] else [k]) = T) := eT
  clear eT fin resc resq
  by_cases hk1 : k = -1
  · have ET : Hid (ts = T) := by have := HE.out; rw [if_pos hk1, List.append_nil] at this; exact this
    clear HE
    subst hk1
    go_enter Tryz.func118, Tryz.ntmps118
    go_wp2_with (first
      | (at_make; refine wpList_make_own _ rfl _ (.tmp 8) 25 rfl W0.heap.size 3 i0 (.int .i64 0) 1 Tryz.underlying25 hi hz0 hz1 .i64 .i64 _ N1 rfl rfl rfl (by rw [hz2]; omega) (by unfold maxLen; omega) (Nat.le_refl _) ?_; intro w1 hown hgrow
         have hb1 : Below W0.heap.size W0 w1 := (Below.refl _ _).grown hgrow (Nat.le_refl _) (fun k h => by cases h)
         obtain ⟨cy0, cy1, cy2, cy4⟩ := boxc w1 hb1
         have r1 := h0.below (bTn b0 hb1))
      | (at_builtin; refine wpList_copy rfl (.tmp 10) (.tmp 13) 25 rfl W0.heap.size 3 i0 (.int .i64 0) 8 Tryz.underlying25 hi hz0 hz1 hz2 rfl _ 0 [] rfl hown .i64 a n c ts rfl r1 hc (by unfold maxLen; omega) (by omega) hb1.size ?_; intro v2 w2 hown2 hg2
         have hb2 : Below W0.heap.size W0 w2 := hb1.grown hg2 hb1.size (fun g h => (hown.lt g h).1)
         obtain ⟨cy0, cy1, cy2, cy4⟩ := boxc w2 hb2
         obtain ⟨q0, q1, q2, q3, q4, q5⟩ := RES.out w2 hb2
         obtain ⟨a', c', ev, W', eW', g1, g2, g3, g4, g5, g6, g7⟩ := FIN.out w2 v2 hb2 (by rw [← ET.out, hl]; simpa using hown2)
         subst ev
         clear hown hown2 hg2 hgrow))
    refine bodyPost_ret (v := .agg #[.slice a' T.length c', .int .i64 s, .bool f]) ?_ rfl ⟨⟨a', c', rfl, g1, g2, g3⟩, g4⟩
    simp [results, Tryz.f118, go_sem, g5, g6, g7]
  · have ET : Hid (ts ++ [k] = T) := by have := HE.out; rw [if_neg hk1] at this; exact this
    have tk : (k == -1) = false := by simp [hk1]
    clear HE
    go_enter Tryz.func118, Tryz.ntmps118
    go_wp2_with (first
      | (at_make; refine wpList_make_own _ rfl _ (.tmp 8) 25 rfl W0.heap.size 3 i0 (.int .i64 0) 1 Tryz.underlying25 hi hz0 hz1 .i64 .i64 _ N1 rfl rfl rfl (by rw [hz2]; omega) (by unfold maxLen; omega) (Nat.le_refl _) ?_; intro w1 hown hgrow
         have hb1 : Below W0.heap.size W0 w1 := (Below.refl _ _).grown hgrow (Nat.le_refl _) (fun k h => by cases h)
         obtain ⟨cy0, cy1, cy2, cy4⟩ := boxc w1 hb1
         have r1 := h0.below (bTn b0 hb1))
      | (at_builtin; refine wpList_copy rfl (.tmp 10) (.tmp 13) 25 rfl W0.heap.size 3 i0 (.int .i64 0) 8 Tryz.underlying25 hi hz0 hz1 hz2 rfl _ 0 [] rfl hown .i64 a n c ts rfl r1 hc (by unfold maxLen; omega) (by omega) hb1.size ?_; intro v2 w2 hown2 hg2
         have hb2 : Below W0.heap.size W0 w2 := hb1.grown hg2 hb1.size (fun g h => (hown.lt g h).1)
         obtain ⟨cy0, cy1, cy2, cy4⟩ := boxc w2 hb2
         clear hown)
      | (at_builtin; refine wpList_append_own _ rfl (.tmp 18) (.tmp 21) 25 rfl W0.heap.size 3 i0 (.int .i64 0) 1 8 Tryz.underlying25 hi hz0 hz1 hz2 rfl (by decide) _ _ _ rfl (hown2.alloc _) ⟨_, 0, none⟩ 1 1 [.int .i64 k] rfl rfl (one_new _ _ _) (oOc _ _) (by unfold maxLen; omega) (by omega) (by have := hb2.size; simp; omega) ?_; intro v3 w3 hown3 hg3 _
         have hb3 : Below W0.heap.size W0 w3 := (hb2.alloc hb2.size _).grown hg3 (by have := hb2.size; simp; omega) (fun g h => (hown2.lt g h).1)
         obtain ⟨cy0, cy1, cy2, cy4⟩ := boxc w3 hb3
         obtain ⟨q0, q1, q2, q3, q4, q5⟩ := RES.out w3 hb3
         obtain ⟨a', c', ev, W', eW', g1, g2, g3, g4, g5, g6, g7⟩ := FIN.out w3 v3 hb3 (by rw [← ET.out, List.length_append, hl]; simpa using hown3)
         subst ev
         clear hown2 hown3 hg2 hg3 hgrow))
    refine bodyPost_ret (v := .agg #[.slice a' T.length c', .int .i64 s, .bool f]) ?_ rfl ⟨⟨a', c', rfl, g1, g2, g3⟩, g4⟩
    simp [results, Tryz.f118, go_sem, g5, g6, g7]
end Go.Proofs.YtbkjhfmehemgpaaGreat

/- The program's taking of the free pages with the least numbers. -/
import Derived.Test.YtfggkkhehaafcaaRows
import Derived.Test.YtfggkkhehaafcaaPages
import Derived.Test.YtfggkkhehaafcaaView
import Derived.Test.YtfggkkhehaafcaaOwn
import Derived.Test.YtfggkkhehaafcaaReadsP
import Derived.WalkKit
import Derived.ProofKit
import Derived.OpenShut
import Derived.Below
import Derived.WalkLawsBesides
import Derived.Deep.QuietTactic
import Derived.BigQuiet
import Derived.OwnWalk
namespace Go.Proofs.Ytfggkkhehaafcaa
open Go.ChangeShapes Go.WideShapes Go.ChangeAt Go.RowKit
set_option linter.unusedVariables false

theorem info93 : (Try.prog.info? 93).map (·.size) = some 34 := by kernel_rfl

/-- the cells of a taken page are stored whole -/
theorem new_there {B : Nat} {w : World} {b g : Nat} {s : Pl} (h : PoolAt B w b g s) (i : Nat) (hi : i < s.n) (t : ByteArray) : w.there g (i * 34) (newCs t).toArray.size := by
  rw [List.size_toArray, newCs_len]
  exact h.row.there _ _ (by omega)
theorem new_info (t : ByteArray) : (Try.prog.info? 93).map (·.size) = some (newCs t).toArray.size := by
  rw [List.size_toArray, newCs_len]
  exact info93
theorem new_one (t : ByteArray) : (newCs t).toArray.all (·.oneCell') = true :=
  all_oneCell_toArray fun v hv => by
    rcases List.mem_cons.1 hv with rfl | hv
    · rfl
    rcases List.mem_cons.1 hv with rfl | hv
    · rfl
    rw [List.eq_of_mem_replicate hv]
    rfl

theorem own_cap {w : World} {B : Nat} {e : TypeId} {a : Option Addr} {n c : Nat} {cs : List Value} (h : w.ownsRow B e 1 (.slice a n c) n cs) : n ≤ c := by
  rcases h.2 with ⟨h, _⟩ | ⟨g, cap, cur, h, _, _, hn, _⟩
  · simp only [Value.slice.injEq] at h
    omega
  · simp only [Value.slice.injEq] at h
    omega
theorem own_form {w : World} {B : Nat} {e : TypeId} {v : Value} {n : Nat} {cs : List Value} (h : w.ownsRow B e 1 v n cs) : ∃ a c, v = .slice a n c := by
  rcases h.2 with ⟨h1, h'⟩ | ⟨g, cap, cur, h, _, _, hn, _⟩
  · subst h'
    exact ⟨_, _, h1⟩
  · exact ⟨_, _, h⟩
theorem own_off {B B' : Nat} {T : TypeId → Bool} {w w' : World} {e : TypeId} {v : Value} {n : Nat} {cs : List Value} (h : w.ownsRow B e 1 v n cs) (o : Off B' T w w') (hT : T e = false) : w'.ownsRow B e 1 v n cs := by
  refine ⟨h.1, ?_⟩
  rcases h.2 with h | ⟨g, cap, cur, h1, h2, h3, h4⟩
  · exact .inl h
  · exact .inr ⟨g, cap, cur, h1, h2, (o.row (t := e) (g := g) (m := cur.size) ⟨cur, h3, rfl⟩ hT).trans h3, h4⟩

theorem Off.then_below {B : Nat} {T : TypeId → Bool} {w wr w' : World} (o : Off B T w wr) (h : Below w.heap.size wr w') : Off B T w w' :=
  ⟨h.os.trans o.os, h.tape.trans o.tape, h.output.trans o.output, Nat.le_trans o.size h.size, fun k hk hc => (h.block k hk).trans (o.block k hk hc)⟩
theorem PoolAt.under {B m : Nat} {w w' : World} {b g : Nat} {s : Pl} (h : PoolAt B w b g s) (hb : b < m) (hg : g < m) (o : Below m w w') : PoolAt B w' b g s :=
  h.of_blocks (o.block b hb) (o.block g hg)

theorem ints_snoc (l : List Int) (i : Int) : (l ++ [i]).map (Value.int .i64) = l.map (Value.int .i64) ++ [.int .i64 i] := by simp

theorem ints_at (zs : List Int) (j : Nat) (h : j < zs.length) : (zs.map (Value.int .i64))[j]? = some (.int .i64 (zs.getD j 0)) := by simp [List.getD, h]

/-- a row of numbers of the call's own -/
structure RowI (B : Nat) (w : World) (a : Option Addr) (l c : Nat) (zs : List Int) : Prop where
  len : zs.length = l
  own : w.ownsRow B 3 1 (.slice a l c) l (zs.map (Value.int .i64))
  wf : ∀ z ∈ zs, (Lit.int .i64 z).wf = true

theorem RowI.nil (B : Nat) (w : World) : RowI B w none 0 0 [] := ⟨rfl, World.ownsRow_nil _ _ _ _, by simp⟩
theorem RowI.reads {B : Nat} {w : World} {a : Option Addr} {l c : Nat} {zs : List Int} (h : RowI B w a l c zs) : Reads .i64 w a l zs :=
  own_reads_at h.own h.len h.wf (fun j hj => ints_at _ j (by rw [h.len]; exact hj))
theorem RowI.off {B B' : Nat} {T : TypeId → Bool} {w w' : World} {a : Option Addr} {l c : Nat} {zs : List Int} (h : RowI B w a l c zs) (o : Off B' T w w') (hT : T 3 = false) : RowI B w' a l c zs := ⟨h.len, own_off h.own o hT, h.wf⟩
theorem RowI.below {B : Nat} {w w' : World} {a : Option Addr} {l c : Nat} {zs : List Int} (h : RowI B w a l c zs) (o : Below w.heap.size w w') : RowI B w' a l c zs := h.off (T := fun _ => false) (B' := 0) (Off.of_below o) rfl
theorem RowI.mono {B B' : Nat} {w : World} {a : Option Addr} {l c : Nat} {zs : List Int} (h : RowI B w a l c zs) (hB : B' ≤ B) : RowI B' w a l c zs := by
  refine ⟨h.len, ⟨h.own.1, ?_⟩, h.wf⟩
  rcases h.own.2 with h1 | ⟨g, cap, cur, h1, h2, h3⟩
  · exact .inl h1
  · exact .inr ⟨g, cap, cur, h1, Nat.le_trans hB h2, h3⟩

set_option maxRecDepth 20000 in
theorem takeLeast_call {B : Nat} {w : World} {b g : Nat} {s : Pl} (h : PoolAt B w b g s) (hn : s.n ≤ 256) (t : ByteArray) (K : Nat) (hK : K ≤ 256) :
    Calls Try.prog 66 #[.pointer (some ⟨b, 0, none⟩), .string t, .int .i64 K] w fun e w' =>
      (∃ a c, e = .returned (.slice a (tk s.pg K s.n).length c) ∧ RowI w.heap.size w' a (tk s.pg K s.n).length c (tk s.pg K s.n)) ∧ PoolAt B w' b g { s with pg := takeP s.pg t K s.n } ∧ Off B TP w w' := by
  obtain ⟨i0, hi, hz0, hz1, hz2⟩ := info_parts info3
  obtain ⟨n, p, A⟩ := s
  simp only at hn ⊢
  have hbw := h.top.lt
  have hgw := h.row.lt
  have H0 := hidden_ h
  have t0 := h.t0
  simp only at t0
  obtain ⟨X, eX⟩ : ∃ X : Addr, X = ⟨g, 0, none⟩ := ⟨_, rfl⟩
  have HX := hidden_ eX
  have HT := hidden_ (fun i => tk_le p K i)
  have HW := hidden_ (tk_wf p K n hn)
  rw [← eX] at t0
  clear eX h
  have HB := hidden_ (And.intro hbw hgw)
  clear hbw hgw
  go_enter Try.func66, Try.ntmps66
  go_wp2_with (first
    | (at_make; refine wpList_make_own _ rfl _ (.tmp 9) 58 rfl w.heap.size 3 i0 (.int .i64 0) 1 Try.underlying58 hi hz0 hz1 .i64 .i64 _ K rfl rfl rfl (by rw [hz2]; omega) (by unfold maxLen; omega) (Nat.le_refl _) ?_; intro w1 hown hgrow; have t0' : w1.cell? ⟨b, 0, none⟩ = some (.slice (some X) n n) := ((Below.refl w.heap.size w).grown hgrow (Nat.le_refl _) (fun k h => by cases h)).cell (p := ⟨b, 0, none⟩) HB.out.1 |>.trans t0))
  have hbel : Below w.heap.size w w1 := (Below.refl _ _).grown hgrow (Nat.le_refl _) (fun k h => by cases h)
  go_loopw [7, 16] (fun v i wr => ∃ k : Nat, k ≤ n ∧ i = .int .i64 k ∧ wr.ownsRow w.heap.size 3 1 v (tk p K k).length ((tk p K k).map (Value.int .i64)) ∧ PoolAt B wr b g ⟨n, takeP p t K k, A⟩ ∧ Off B TP w wr) (fun _ i _ => n - (intOf i).toNat)
  case atStart => exact ⟨0, Nat.zero_le _, rfl, hown, by rw [takeP_zero]; exact H0.out.below hbel, Off.of_below hbel⟩
  case round =>
    clear hown hgrow hbel t0 t0'
    obtain ⟨k, hk, rfl, ho, hp, hoff⟩ := hrel
    obtain ⟨a, c, rfl⟩ := own_form ho
    have hl := HT.out k
    by_cases hlt : k < n
    · obtain ⟨L, eL⟩ : ∃ L, (tk p K k).length = L := ⟨_, rfl⟩
      rw [eL] at hl
      by_cases hL : L = K
      · have hst := tk_stop p t K k (eL.trans hL) (n - k)
        rw [show k + (n - k) = n by omega] at hst
        have HS := hidden_ hst
        have HO := hidden_ ho
        have HP := hidden_ (And.intro hp hoff)
        have t0 := hp.t0
        simp only at t0
        rw [← HX.out] at t0
        rw [eL]
        subst hL
        have HL := hidden_ eL
        clear eL hst ho hp hoff
        go_wp2
        go_ret
        refine ⟨⟨a, c, ?_, ?_⟩, ?_, HP.out.2⟩
        · rw [HS.out.1, HL.out]
          rfl
        · rw [HS.out.1]
          exact ⟨rfl, HO.out, by rw [← HS.out.1]; exact HW.out⟩
        · rw [HS.out.2]
          exact HP.out.1
      · have hL' : ((L : Int) == (K : Int)) = false := by simp; omega
        have t0 := hp.t0
        simp only at t0
        rw [← HX.out] at t0
        have eP : X.add (k * 34) = ⟨g, k * 34, none⟩ := by rw [HX.out, add_zero_at]
        have c1 := (hp.pg k hlt).c1
        simp only [takeP_at] at c1
        obtain ⟨O, eO⟩ : ∃ O, (p k).ow = O := ⟨_, rfl⟩
        rw [eO] at c1
        by_cases hO : O = 0
        · subst hO
          have st := hidden_ (new_there hp k hlt t)
          obtain ⟨hp2, ho2⟩ := hp.setNew k hlt t
          obtain ⟨W2, eW⟩ : ∃ W2, wr.setCells g (k * 34) (newCs t) = W2 := ⟨_, rfl⟩
          rw [eW] at hp2 ho2
          have HWs := hidden_ (show wr.setCells g (k * 34) (newCs t).toArray.toList = W2 from eW)
          have es := tk_yes p K k eO (by omega)
          have et := takeP_yes p t K k eO (by omega)
          have hlL : (tk p K (k + 1)).length = L + 1 := by rw [es, List.length_append, eL]; rfl
          replace ho := own_off ho ho2 rfl
          simp only at hp2
          rw [← et] at hp2
          rw [eL] at ho ⊢
          have HS := hidden_ (And.intro es hlL)
          have HP := hidden_ (And.intro hp2 (hoff.trans ho2))
          have hsz : w.heap.size ≤ W2.heap.size := (hoff.trans ho2).size
          clear es et hlL hp2 ho2 hp hoff eW eL eO
          go_wp2_with (first
            | (refine wpList_store_mid rfl 93 (.tmp 39) (.tmp 38) rfl g (k * 34) (newCs t).toArray rfl rfl st.out (new_info t) (new_one t) ?_; rw [HWs.out])
            | (at_builtin; refine wpList_append_own _ rfl (.tmp 40) (.tmp 42) 58 rfl w.heap.size 3 i0 (.int .i64 0) 1 8 Try.underlying58 hi hz0 hz1 hz2 rfl (by decide) _ _ _ rfl (World.ownsRow.alloc (w := W2) ho _) ⟨_, 0, none⟩ 1 1 [.int .i64 k] rfl rfl (one_new _ _ _) (one_oneCell _ _) (by unfold maxLen; omega) (by omega) (by simp; omega) ?_; intro v' w3 ho' hg _))
          have hb3 : Below w.heap.size W2 w3 := ((Below.refl w.heap.size W2).alloc hsz _).grown hg (by simp; omega) (fun q hq => (ho.lt q hq).1)
          go_roundw
          case rel => exact ⟨k + 1, by omega, by go_num, by rw [HS.out.2, HS.out.1, ints_snoc]; exact ho', HP.out.1.under HB.out.1 HB.out.2 hb3, HP.out.2.then_below hb3⟩
          case measure => simp [intOf]; omega
        · have es := tk_no p K k (fun x => hO (by rw [← eO]; exact x.1))
          have et := takeP_no p t K k (fun x => hO (by rw [← eO]; exact x.1))
          have HR := hidden_ (And.intro ho (And.intro hp hoff))
          have HS := hidden_ (And.intro es et)
          rw [eL]
          have HL := hidden_ eL
          clear es et ho hp hoff eL eO
          go_wp2
          go_roundw
          case rel => exact ⟨k + 1, by omega, by go_num, by rw [HS.out.1, HL.out]; have := HR.out.1; rw [HL.out] at this; exact this, by rw [HS.out.2]; exact HR.out.2.1, HR.out.2.2⟩
          case measure => simp [intOf]; omega
    · have e : k = n := by omega
      subst e
      have HR := hidden_ (And.intro ho (And.intro hp hoff))
      obtain ⟨L, eL⟩ : ∃ L, (tk p K k).length = L := ⟨_, rfl⟩
      rw [eL]
      have HL := hidden_ eL
      clear ho hp hoff eL hl
      go_wp2
      go_ret
      exact ⟨⟨a, c, by rw [HL.out]; rfl, ⟨rfl, HR.out.1, HW.out⟩⟩, HR.out.2.1, HR.out.2.2⟩

end Go.Proofs.Ytfggkkhehaafcaa

/- The program makes room for the next row: the contract of makeRoom. -/
import Derived.Test.YtgjjeggopeppfaaRows
import Derived.Test.YtgjjeggopeppfaaPages
import Derived.Test.YtgjjeggopeppfaaView
import Derived.Test.YtgjjeggopeppfaaOwn
import Derived.Test.YtgjjeggopeppfaaLeast
import Derived.Test.YtgjjeggopeppfaaLays
import Derived.Test.YtgjjeggopeppfaaTurns
import Derived.Test.YtgjjeggopeppfaaGoods
import Derived.Test.YtgjjeggopeppfaaSeqs
import Derived.Test.YtgjjeggopeppfaaSeqAt
import Derived.Test.YtgjjeggopeppfaaSeqRd
import Derived.Test.YtgjjeggopeppfaaSeqNeed
import Derived.Test.YtgjjeggopeppfaaReadsP
import Derived.Test.YtgjjeggopeppfaaReadsQ
import Derived.Test.YtgjjeggopeppfaaLies
import Derived.Test.YtgjjeggopeppfaaRoom1
import Derived.Test.YtgjjeggopeppfaaCopyLast
import Derived.WalkKit
import Derived.ProofKit
import Derived.OpenShut
import Derived.Below
import Derived.WalkLawsBesides
import Derived.Deep.QuietTactic
import Derived.BigQuiet
import Derived.Laws.OwnMore
import Derived.Deep.RegionLaw
import Derived.Maps.AppendAt
import Derived.Deep.RegionHeld3
namespace Go.Proofs.Ytgjjeggopeppfaa
open Go.ChangeShapes Go.WideShapes Go.ChangeAt Go.RowKit
set_option linter.unusedVariables false
set_option linter.unusedSimpArgs false

theorem add_nought (y : Addr) : y.add 0 = y := by simp [Addr.add]
theorem Good.roomS {m wd : Nat} {s : Pl} (h : Good m s) (hm : 1 ≤ m) (t : ByteArray) (q : Sq) : Good m (roomS wd t s q) := by
  unfold Ytgjjeggopeppfaa.roomS
  split
  · split
    · exact ((h.takeS hm t 1).copyTo _ _ 32).drS _
    · exact h.takeS hm t 1
  · exact h

theorem makeRoom_call {g m : Nat} {s : Pl} {B : Nat} {w : World} {x b : Nat} {t : ByteArray} {wd : Nat} {q : Sq} {a : Option Addr} {c : Nat} (h : SeqAt B w x b t wd q a c) (hp : PoolAt B w b g s) (hG : Good m s) (hm : 1 ≤ m ∧ m ≤ 1000000) (hq : SqOk wd q) :
    Calls Try.prog 31 #[.pointer (some ⟨x, 0, none⟩)] w fun e w' => e = .returned (.int .i64 (roomE wd t s q)) ∧ ∃ a' c', PoolAt B w' b g (roomS wd t s q) ∧ SeqAt B w' x b t wd ⟨roomP wd t s q, q.st, q.n⟩ a' c' ∧ (∀ k, blkOf a' k → blkOf a k ∨ w.heap.size ≤ k) ∧ OffS B TP (Own x a) w w' := by
  have k29 := need_call h hp hG hq
  unfold needV at k29
  by_cases hn : needB wd s q = true
  · rw [if_pos hn] at k29
    have hB : B ≤ w.heap.size := hp.lt
    have k57 := fun m' => take_call (hp.drewN m') hG t 1
    have c0 := h.c0
    have c1 := h.c1
    have H := hidden_ h
    have hE : roomE wd t s q = takeE s t 1 := by unfold roomE; rw [if_pos hn]
    rw [hE]
    by_cases h0 : takeE s t 1 = 0
    · obtain ⟨r1, r2, r3, r4⟩ := takeR_one hG h0
      have hwf := taken_wf hG h0
      have eS : roomS wd t s q = if fitB wd q = true then drS (copyTo (takeS s t 1) (lastZ q.P) (takenZ s t) 32) (lastZ q.P) else takeS s t 1 := by unfold roomS; rw [if_pos ⟨hn, h0⟩]
      have eP : roomP wd t s q = if fitB wd q = true then q.P.set (q.P.length - 1) (takenZ s t) else q.P ++ [takenZ s t] := by unfold roomP; rw [if_pos ⟨hn, h0⟩]
      have hG1 := hG.takeS hm.1 t 1
      rw [eS, eP, h0]
      rw [r1] at k57
      have hl' : q.P.length ≤ 1000 := Nat.le_trans hq.len hq.few
      obtain ⟨Y, eY⟩ : ∃ Y, takenZ s t = Y := ⟨_, rfl⟩
      rw [eY] at k57 hwf ⊢
      simp only [h0] at k57
      obtain ⟨S1, eS1⟩ : ∃ S1, takeS s t 1 = S1 := ⟨_, rfl⟩
      rw [eS1] at k57 hG1 ⊢
      have k55 : Hid (∀ W, SeqAt B W x b t wd q a c → Calls Try.prog 55 #[.pointer (some ⟨x, 0, none⟩)] W fun e w' => e = .returned (.bool (fitB wd q)) ∧ ∃ m, w' = W.drewN m) := fun W hW => hasRoom_call hW hq
      by_cases hf : fitB wd q = true
      · rw [hf] at k55
        rw [if_pos hf, if_pos hf]
        have hl := fit_len hq hf
        have k58 : Hid (∀ W, SeqAt B W x b t wd q a c → PoolAt B W b g S1 → _) := fun W hW hP => copyLast_call hW hP hG1 hm.2 hl hl' Y hwf
        obtain ⟨D, eD⟩ : ∃ D, drS (copyTo S1 (lastZ q.P) Y 32) (lastZ q.P) = D := ⟨_, rfl⟩
        rw [eD] at k58 ⊢
        clear h hp hG hm hq hn hE r1 r2 r3 r4 eS eP eY eS1 hG1 hf eD h0 hl hl' hwf
        go_enter Try.func31, Try.ntmps31
        go_wp2_with (first | (go_at_call 29; refine k29.mono ?_; rintro e W1 ⟨rfl, m1, h1⟩; have k57' := k57 (m1 + 1); have HW := hidden_ h1; subst h1; clear k57 k29))
        go_region_held3 (fun W => W.cell? ⟨x, 0, none⟩ = some (.pointer (some ⟨b, 0, none⟩)) ∧ W.cell? ⟨x, 1, none⟩ = some (.string t)) (first | assumption | (exact ⟨c0, c1⟩) | exact d01) (first
          | (go_at_call 57; refine k57'.mono ?_; rintro e W2 ⟨a1, l1, p1, rfl, hr1, hp1, ho1⟩; have ho2 : Off B TP w W2 := ⟨ho1.os, ho1.tape, ho1.output, ho1.size, ho1.block⟩; have h2 := H.out.off ho2 rfl rfl; have d01 := And.intro h2.c0 h2.c1; have HT := hidden_ (And.intro hr1 (And.intro hp1 (And.intro ho2 h2))); clear hr1 hp1 ho1 ho2 h2))
        have l1e : l1 = 1 := HT.out.1.len.symm
        subst l1e
        obtain ⟨y1, rfl⟩ := HT.out.1.reads.some_ (by omega)
        have d1 : W2.cell? y1 = some (.int .i64 Y) := by have := HT.out.1.reads.cell y1 rfl 0 (by omega); rwa [add_nought] at this
        have d1' : W2.cell? (y1.add 0) = some (.int .i64 Y) := by rw [add_nought]; exact d1
        have kk := k55.out W2 HT.out.2.2.2
        go_wp2_with (first
          | (go_at_call 55; refine kk.mono ?_; rintro e W3 ⟨rfl, m3, h3⟩; have kc := k58.out W3 (by rw [h3]; exact HT.out.2.2.2.drewN m3) (by rw [h3]; exact HT.out.2.1.drewN m3); have d3 : W3.cell? y1 = some (.int .i64 Y) := (by rw [h3]; exact d1); have d3' : W3.cell? (y1.add 0) = some (.int .i64 Y) := (by rw [h3]; exact d1'); have H3 := hidden_ (show Off B TP w W3 by rw [h3]; exact HT.out.2.2.1.drewN m3); clear h3 kk)
          | (go_at_call 58; refine kc.mono ?_; rintro e W4 ⟨rfl, hp4, hs4, ho4⟩; have HF := hidden_ (And.intro hp4 (And.intro hs4 ho4)); clear hp4 hs4 ho4 kc))
        go_ret
        exact ⟨rfl, _, _, HF.out.1, HF.out.2.1, fun k hk => .inl hk, OffS.trans (H3.out.toS _) HF.out.2.2 (fun _ z => .inl z)⟩
      · have hf' : fitB wd q = false := by simpa using hf
        rw [hf'] at k55
        rw [if_neg hf, if_neg hf]
        clear h hp hG hm hq hn hE r1 r2 r3 r4 eS eP eY eS1 hG1 hf h0 hf'
        go_enter Try.func31, Try.ntmps31
        go_wp2_with (first | (go_at_call 29; refine k29.mono ?_; rintro e W1 ⟨rfl, m1, h1⟩; have k57' := k57 (m1 + 1); have HW := hidden_ h1; subst h1; clear k57 k29))
        go_region_held3 (fun W => W.cell? ⟨x, 0, none⟩ = some (.pointer (some ⟨b, 0, none⟩)) ∧ W.cell? ⟨x, 1, none⟩ = some (.string t)) (first | assumption | (exact ⟨c0, c1⟩) | exact d01) (first
          | (go_at_call 57; refine k57'.mono ?_; rintro e W2 ⟨a1, l1, p1, rfl, hr1, hp1, ho1⟩; have ho2 : Off B TP w W2 := ⟨ho1.os, ho1.tape, ho1.output, ho1.size, ho1.block⟩; have h2 := H.out.off ho2 rfl rfl; have d01 := And.intro h2.c0 h2.c1; have HT := hidden_ (And.intro hr1 (And.intro hp1 (And.intro ho2 h2))); clear hr1 hp1 ho1 ho2 h2))
        have l1e : l1 = 1 := HT.out.1.len.symm
        subst l1e
        obtain ⟨y1, rfl⟩ := HT.out.1.reads.some_ (by omega)
        have d1 : W2.cell? y1 = some (.int .i64 Y) := by have := HT.out.1.reads.cell y1 rfl 0 (by omega); rwa [add_nought] at this
        have d1' : W2.cell? (y1.add 0) = some (.int .i64 Y) := by rw [add_nought]; exact d1
        have kk := k55.out W2 HT.out.2.2.2
        go_wp2_with (first
          | (go_at_call 55; refine kk.mono ?_; rintro e W3 ⟨rfl, m3, h3⟩; have d3 : W3.cell? y1 = some (.int .i64 Y) := (by rw [h3]; exact d1); have d3' : W3.cell? (y1.add 0) = some (.int .i64 Y) := (by rw [h3]; exact d1'); have H3 := hidden_ (And.intro (show Off B TP w W3 by rw [h3]; exact HT.out.2.2.1.drewN m3) (And.intro (show SeqAt B W3 x b t wd q a c by rw [h3]; exact HT.out.2.2.2.drewN m3) (show PoolAt B W3 b g S1 by rw [h3]; exact HT.out.2.1.drewN m3))); clear h3 kk))
        obtain ⟨o3, s3, p3⟩ := H3.out
        have hB3 : B ≤ W3.heap.size := p3.lt
        obtain ⟨a', c', W5, hrun, hr5, hb5, ho5⟩ := run_append1 s3.pg hB3 hl' Y hwf
        have c53 := s3.c5
        have s5 : SeqAt B W5 x b t wd q a c ∨ True := .inr trivial
        have hx5 : W5.heap[x]? = W3.heap[x]? := ho5.row s3.top rfl (fun hk => by obtain ⟨_, m', hr⟩ := s3.pg.block hk; exact s3.top.ne hr (by decide) rfl)
        have e5 : W5.cell? ⟨x, 5, none⟩ = some (.slice a q.P.length c) := (cell_of_block hx5 5).trans s3.c5
        have f5 : W5.frozen? ⟨x, 5, none⟩ = false := (s3.top.of_block hx5).open_ 5
        have c54 : (W3.alloc (.cells #[.int .i64 Y] 3)).cell? ⟨x, 5, none⟩ = some (.slice a q.P.length c) := ((below_new (Below.refl _ W3) _).cell (p := ⟨x, 5, none⟩) s3.top.lt).trans s3.c5
        have hr5' : RowI B W5 a' (q.P ++ [Y]).length c' (q.P ++ [Y]) := by rw [List.length_append]; exact hr5
        obtain ⟨s6, o6⟩ := s3.newP hx5 (q.P ++ [Y]) hr5'
        have e6 : (q.P ++ [Y]).length = q.P.length + 1 := by simp
        rw [e6] at s6 o6
        have o35 : OffS B TP (Own x a) W3 (W5.setCell ⟨x, 5, none⟩ (.slice a' (q.P.length + 1) c')) := OffS.trans (ho5.mono (fun _ _ => rfl) (fun _ z => .inr z)) (o6.mono (fun _ _ => rfl) (fun _ z => .inl z)) (fun _ z => .inl z)
        have o35' := fun {t' : TypeId} {g' m' : Nat} (r : Row t' W3 g' m') (h1 : t' ≠ 72) (h2 : t' ≠ 3) => OffS.row (OffS.trans (ho5.mono (T' := fun _ => false) (fun _ _ => rfl) (fun _ z => .inr z)) (o6.mono (S' := Own x a) (fun _ _ => rfl) (fun _ z => .inl z)) (fun _ z => .inl z)) r rfl (fun z => by rcases (s3.type z).2.2 with e | e <;> (rw [r.type] at e; injection e with e; first | exact h1 e | exact h2 e))
        have p6 : PoolAt B (W5.setCell ⟨x, 5, none⟩ (.slice a' (q.P.length + 1) c')) b g S1 := p3.of_blocks (o35' p3.top (by decide) (by decide)) (o35' p3.row (by decide) (by decide))
        have HS := hidden_ (And.intro p6 (And.intro s6 (And.intro (fun k hk => (hb5 k hk).imp id (fun z => Nat.le_trans o3.size z)) (OffS.trans (o3.toS _) o35 (fun _ z => .inl z)))))
        obtain ⟨L, eL⟩ : ∃ L, q.P.length = L := ⟨_, rfl⟩
        rw [eL] at hrun e5 c53 c54 hl' HS
        clear s5 hr5 hb5 ho5 hx5 o3 s3 p3 eL hr5' s6 o6 e6 o35 o35' p6
        go_wp2
        go_region_law (refine step_append_run rfl (.tmp 34) (.tmp 38) 49 rfl 49 rfl _ _ (by simp [Act.eval, Act.put]) (by simp [Act.eval, Act.put]) _ _ hrun ?_)
        all_goals
          go_wp2
          go_ret
          exact ⟨rfl, _, _, HS.out.1, HS.out.2.1, HS.out.2.2.1, HS.out.2.2.2⟩
    · have eS : roomS wd t s q = s := by unfold roomS; rw [if_neg (fun z => h0 z.2)]
      have eP : roomP wd t s q = q.P := by unfold roomP; rw [if_neg (fun z => h0 z.2)]
      have eT : takeS s t 1 = s := by unfold takeS; rw [if_neg h0]
      rw [eS, eP]
      rw [eT] at k57
      obtain ⟨E, eE⟩ : ∃ E, takeE s t 1 = E := ⟨_, rfl⟩
      rw [eE] at h0 k57 ⊢
      have h0' : (E == 0) = false := by simp [h0]
      have h0'' : (E != 0) = true := by simp [h0]
      obtain ⟨R, eR⟩ : ∃ R, takeR s t 1 = R := ⟨_, rfl⟩
      rw [eR] at k57
      clear h hp hG hm hq hn hE eS eP eT eE eR
      go_enter Try.func31, Try.ntmps31
      go_wp2_with (first | (go_at_call 29; refine k29.mono ?_; rintro e W1 ⟨rfl, m1, h1⟩; have k57' := k57 (m1 + 1); have HW := hidden_ h1; subst h1; clear k57 k29))
      go_region_held3 (fun W => W.cell? ⟨x, 0, none⟩ = some (.pointer (some ⟨b, 0, none⟩)) ∧ W.cell? ⟨x, 1, none⟩ = some (.string t)) (first | assumption | (exact ⟨c0, c1⟩) | exact d01) (first
        | (go_at_call 57; refine k57'.mono ?_; rintro e W2 ⟨a1, l1, p1, rfl, hr1, hp1, ho1⟩; have ho2 : Off B TP w W2 := ⟨ho1.os, ho1.tape, ho1.output, ho1.size, ho1.block⟩; have h2 := H.out.off ho2 rfl rfl; have d01 := And.intro h2.c0 h2.c1; have HT := hidden_ (And.intro hr1 (And.intro hp1 (And.intro ho2 h2))); clear hr1 hp1 ho1 ho2 h2))
      go_wp2
      go_ret
      exact ⟨rfl, _, _, HT.out.2.1, HT.out.2.2.2, fun k hk => .inl hk, HT.out.2.2.1.toS _⟩
  · rw [if_neg hn] at k29
    have eE : roomE wd t s q = 0 := by unfold roomE; rw [if_neg hn]
    have eS : roomS wd t s q = s := by unfold roomS; rw [if_neg (fun z => hn z.1)]
    have eP : roomP wd t s q = q.P := by unfold roomP; rw [if_neg (fun z => hn z.1)]
    rw [eE, eS, eP]
    have HF := hidden_ (And.intro h hp)
    clear h hp hG hm hq hn eE eS eP
    go_enter Try.func31, Try.ntmps31
    go_wp2_with (first | (go_at_call 29; refine k29.mono ?_; rintro e W1 ⟨rfl, m1, h1⟩; have HW := hidden_ h1; clear h1 k29))
    go_ret
    exact ⟨rfl, _, _, by rw [HW.out]; exact HF.out.2.drewN m1, by rw [HW.out]; exact HF.out.1.drewN m1, fun k hk => .inl hk, by rw [HW.out]; exact (OffS.refl _ _ _ _).drewN m1⟩

end Go.Proofs.Ytgjjeggopeppfaa

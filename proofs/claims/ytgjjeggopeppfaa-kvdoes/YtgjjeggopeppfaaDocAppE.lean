/- The document appends a row: the wrong length, no page at hand. -/
import Derived.Test.YtgjjeggopeppfaaRows
import Derived.Test.YtgjjeggopeppfaaPages
import Derived.Test.YtgjjeggopeppfaaBasis
import Derived.Test.YtgjjeggopeppfaaLeast
import Derived.Test.YtgjjeggopeppfaaLays
import Derived.Test.YtgjjeggopeppfaaTurns
import Derived.Test.YtgjjeggopeppfaaGoods
import Derived.Test.YtgjjeggopeppfaaRefA
import Derived.Test.YtgjjeggopeppfaaRefTk
import Derived.Test.YtgjjeggopeppfaaRefLays
import Derived.Test.YtgjjeggopeppfaaRefTurns
import Derived.Test.YtgjjeggopeppfaaLies
import Derived.Test.YtgjjeggopeppfaaSeqP
import Derived.Test.YtgjjeggopeppfaaSeqRN
import Derived.Test.YtgjjeggopeppfaaReadsB
import Derived.Test.YtgjjeggopeppfaaForks
import Derived.Test.YtgjjeggopeppfaaRooms
import Derived.Test.YtgjjeggopeppfaaDocAt
import Derived.Test.YtgjjeggopeppfaaDocRd
import Derived.Test.YtgjjeggopeppfaaDocKeep
import Derived.Test.YtgjjeggopeppfaaRegPg
import Derived.Test.YtgjjeggopeppfaaRegAB
import Derived.Test.YtgjjeggopeppfaaDocAp0
import Derived.Test.YtgjjeggopeppfaaSmalls
import Derived.Test.YtgjjeggopeppfaaDocAppN
import Derived.WalkKit
import Derived.ProofKit
import Derived.OpenShut
import Derived.Below
import Derived.WalkLawsBesides
import Derived.Deep.QuietTactic
import Derived.BigQuiet
import Derived.Deep.RegionHeld3
import Derived.Deep.RegionWith
namespace Go.Proofs.Ytgjjeggopeppfaa
open Go.ChangeShapes Go.WideShapes Go.ChangeAt Go.RowKit
set_option linter.unusedVariables false
set_option linter.unusedSimpArgs false

theorem type_at {ops : Array Oper} {i : Nat} {o' : Oper} (h : ops[i]? = some o') (ht : o'.type = 49) : ∀ o, ops[i]? = some o → o.type = 49 := fun o ho => by rw [h] at ho; obtain rfl := Option.some.inj ho; exact ht
set_option maxRecDepth 8000 in
set_option maxHeartbeats 4000000 in
theorem rapp_err {g m : Nat} {s : Pl} {r0 : Nat → Nat} {B : Nat} {w : World} {x b : Nat} {t : ByteArray} {wd : Nat} {q : Sq} {a : Option Addr} {c : Nat} (h : DocAt B w x b t wd q a c) (hp : RefAt B w b g s r0) (hG : Good m s) (hm : 1 ≤ m ∧ m ≤ 1000000) (hq : SqOk wd q) (hn : q.n < 1000) (ra : Option Addr) (rc : Nat) (zs : List Int) (hr : Apart B w ra wd zs s r0) (hnd : needB wd s q = true) (h0 : takeE s t 1 ≠ 0) :
    Calls Try.prog 13 #[.pointer (some ⟨x, 0, none⟩), .slice ra wd rc] w fun e w' => e = .returned (.int .i64 (takeE s t 1)) ∧ DidR B w x b g t wd a s q w' := by
  have k34 := rneed_call h hp hG hq
  unfold needV at k34
  rw [if_pos hnd] at k34
  have c2 := h.c2
  have c0 := h.c0
  have c1 := h.c1
  have w1 := hq.w1
  have H := hidden_ h
  have HP := hidden_ hp
  have HA := hidden_ hr
  have k35 : Hid (∀ W, RefAt B W b g s r0 → Calls Try.prog 35 #[.pointer (some ⟨b, 0, none⟩), .string t, .int .i64 1] W fun e w' => ∃ a l c, e = .returned (.tuple #[.slice a l c, .int .i64 (takeE s t 1)]) ∧ RowI W.heap.size w' a l c (takeR s t 1) ∧ (∃ r', RefAt B w' b g (takeS s t 1) r' ∧ Fresh W.heap.size s (takeS s t 1) r0 r') ∧ Off B TQ W w') := fun W hW => refTakes_call hW (Nat.le_trans hW.Bb (Nat.le_of_lt hW.top.lt)) hG t 1
  have hn2 : Hid ((takeS s t 1).n = s.n) := takeS_n s t 1
  have eT : takeS s t 1 = s := by unfold takeS; rw [if_neg h0]
  simp only [eT] at k35
  have hn2 : Hid (s.n = s.n) := rfl
  obtain ⟨E, eE⟩ : ∃ E, takeE s t 1 = E := ⟨_, rfl⟩
  rw [eE] at h0 ⊢
  simp only [eE] at k35
  have h0' : (E == 0) = false := by simp [h0]
  have h0'' : (E != 0) = true := by simp [h0]
  obtain ⟨T1, eR⟩ : ∃ T1, takeR s t 1 = T1 := ⟨_, rfl⟩
  simp only [eR] at k35
  clear h hp hG hm hq hr eT eE eR
  go_enter Try.func13, Try.ntmps13
  go_wp2_with (first
    | (go_at_call 34; refine k34.mono ?_; rintro e W1 ⟨rfl, m1, h1⟩; have HW := hidden_ h1; clear h1 k34))
  have hcall : ∀ w', w' = W1.drew → Calls Try.prog 35 #[.pointer (some ⟨b, 0, none⟩), .string t, .int .i64 1] w' fun e W' => ∃ v, e = .returned (.tuple #[v, .int .i64 E]) ∧ (fun v W => ∃ a1 l1 p1, v = .slice a1 l1 p1 ∧ RowI w.heap.size W a1 l1 p1 T1 ∧ (∃ r', RefAt B W b g s r' ∧ Apart B W ra wd zs s r') ∧ DocAt B W x b t wd q a c ∧ Off B TQ w W) v W' := by
    intro w' hw'
    subst hw'
    have hb : Below w.heap.size w W1.drew := by rw [HW.out]; exact ⟨rfl, rfl, rfl, Nat.le_refl _, fun _ _ => rfl⟩
    have hz : W1.drew.heap.size = w.heap.size := by rw [HW.out]; rfl
    have k35 := k35.out _ (HP.out.below hb)
    rw [hz] at k35
    refine k35.mono ?_
    rintro e W' ⟨a1, l1, p1, rfl, hr1, ⟨r', hp1, hf1⟩, ho1⟩
    have ho2 : Off B TQ w W' := (Off.of_below (B := B) (T := TQ) hb).trans ho1
    exact ⟨_, rfl, a1, l1, p1, rfl, hr1, ⟨r', hp1, HA.out.off ho2 rfl rfl hf1⟩, H.out.off ho2 rfl rfl, ho2⟩
  have HC4 := hidden_ hcall
  clear hcall
  have c01 : W1.drew.cell? ⟨x, 0, none⟩ = some (.pointer (some ⟨b, 0, none⟩)) := by rw [HW.out]; exact c0
  have c11 : W1.drew.cell? ⟨x, 1, none⟩ = some (.string t) := by rw [HW.out]; exact c1
  refine rt_region x b t E (fun v W => ∃ a1 l1 p1, v = .slice a1 l1 p1 ∧ RowI w.heap.size W a1 l1 p1 T1 ∧ (∃ r', RefAt B W b g s r' ∧ Apart B W ra wd zs s r') ∧ DocAt B W x b t wd q a c ∧ Off B TQ w W) (by kernel_rfl) rfl ⟨_, rfl, rfl, rfl, rfl, by kernel_rfl⟩ ⟨_, rfl, rfl, rfl, rfl, by kernel_rfl⟩ ⟨_, rfl, rfl, rfl, rfl, by kernel_rfl⟩ ⟨_, rfl, rfl, rfl, rfl, by kernel_rfl⟩ ⟨_, rfl, rfl, rfl, rfl, by kernel_rfl⟩ ⟨_, rfl, rfl, rfl, rfl, by kernel_rfl⟩ ⟨_, rfl, rfl, rfl, rfl, by kernel_rfl⟩ ⟨_, rfl, rfl, rfl, rfl, by kernel_rfl⟩ ⟨_, rfl, rfl, rfl, rfl, by kernel_rfl⟩ ⟨_, rfl, rfl, rfl, rfl, by kernel_rfl⟩ ⟨_, rfl, rfl, rfl, rfl, by kernel_rfl⟩ ⟨_, rfl, rfl, rfl, rfl, by kernel_rfl⟩ ⟨_, rfl, rfl, rfl, rfl, by kernel_rfl⟩ ⟨_, rfl, rfl, rfl, rfl, by kernel_rfl⟩ (fun _ => rfl) (fun w => run_fa51 x 0 (by decide) w) (fun l w hw hl => by rw [hw hl]; exact run_load28 c01) (fun w => run_fa51 x 1 (by decide) w) (fun l w hw hl => by rw [hw hl]; exact run_load9 c11) rfl HC4.out (Nat.le_of_ble_eq_true rfl) ?_
  intro l9 a9 W2 hall hs hd hkp hS9 hval
  obtain ⟨v5, e5, a1, l1, p1, rfl, hT⟩ := hval 12 5 (by decide) rfl
  have e6 : a9.tmps.getD 6 undef = .int .i64 E := hval 13 6 (by decide) rfl
  have HT := hidden_ hT
  clear hT
  have ep := frame_puts [25, 26, 27, 28, 29, 30, 31, 32, 33, 24, 34, 35, 5, 6] hs hd (fun s h => hkp s (fun i hi e => h (by
    rcases (show i = 0 ∨ i = 1 ∨ i = 2 ∨ i = 3 ∨ i = 4 ∨ i = 5 ∨ i = 6 ∨ i = 7 ∨ i = 8 ∨ i = 9 ∨ i = 10 ∨ i = 11 ∨ i = 12 ∨ i = 13 by omega) with rfl | rfl | rfl | rfl | rfl | rfl | rfl | rfl | rfl | rfl | rfl | rfl | rfl | rfl <;> first | (simp only [rtD, Option.some.injEq] at e; subst e; simp; done) | (simp [rtD] at e; done))))
  simp only [List.foldl] at ep
  rw [e5] at ep
  rw [e6] at ep
  clear hs hd hkp hval hS9 hall e5 e6
  generalize a9.tmps.getD 25 undef = g25 at ep
  generalize a9.tmps.getD 26 undef = g26 at ep
  generalize a9.tmps.getD 27 undef = g27 at ep
  generalize a9.tmps.getD 28 undef = g28 at ep
  generalize a9.tmps.getD 29 undef = g29 at ep
  generalize a9.tmps.getD 30 undef = g30 at ep
  generalize a9.tmps.getD 31 undef = g31 at ep
  generalize a9.tmps.getD 32 undef = g32 at ep
  generalize a9.tmps.getD 33 undef = g33 at ep
  generalize a9.tmps.getD 24 undef = g24 at ep
  generalize a9.tmps.getD 34 undef = g34 at ep
  generalize a9.tmps.getD 35 undef = g35 at ep
  simp only [Act.put, List.setIfInBounds_toArray, List.set_cons_succ, List.set_cons_zero] at ep
  subst ep
  go_wp2
  go_ret
  obtain ⟨-, ⟨r', p2, -⟩, s2, o2⟩ := HT.out
  exact ⟨rfl, _, _, _, p2, s2, fun k hk => .inl hk, (o2.mono TQ_TR').toS _⟩

set_option maxRecDepth 8000 in
set_option maxHeartbeats 4000000 in
theorem rapp_len {g m : Nat} {s : Pl} {r0 : Nat → Nat} {B : Nat} {w : World} {x b : Nat} {t : ByteArray} {wd : Nat} {q : Sq} {a : Option Addr} {c : Nat} (h : DocAt B w x b t wd q a c) (hp : RefAt B w b g s r0) (hwd : wd ≤ 32) (ra : Option Addr) (rl rc : Nat) (hmx : rl ≤ 9223372036854775807) (hne : rl ≠ wd) :
    Calls Try.prog 13 #[.pointer (some ⟨x, 0, none⟩), .slice ra rl rc] w fun e w' => e = .returned (.int .i64 21) ∧ DidR B w x b g t wd a s q w' := by
  have c2 := h.c2
  have HF := hidden_ (And.intro h hp)
  have hw' : ((rl : Int) == (wd : Int)) = false := by simp; omega
  have hw'' : ((rl : Int) != (wd : Int)) = true := by simp; omega
  clear h hp
  go_enter Try.func13, Try.ntmps13
  go_wp2
  go_ret
  exact ⟨rfl, _, _, _, HF.out.2, HF.out.1, fun k hk => .inl hk, OffS.refl _ _ _ _⟩

end Go.Proofs.Ytgjjeggopeppfaa

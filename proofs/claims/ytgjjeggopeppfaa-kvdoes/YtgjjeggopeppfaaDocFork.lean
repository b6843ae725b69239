/- The document forks a sequence: the contract of its Fork. -/
import Derived.Test.YtgjjeggopeppfaaRows
import Derived.Test.YtgjjeggopeppfaaPages
import Derived.Test.YtgjjeggopeppfaaBasis
import Derived.Test.YtgjjeggopeppfaaLeast
import Derived.Test.YtgjjeggopeppfaaLays
import Derived.Test.YtgjjeggopeppfaaTurns
import Derived.Test.YtgjjeggopeppfaaGoods
import Derived.Test.YtgjjeggopeppfaaRefA
import Derived.Test.YtgjjeggopeppfaaRefTk
import Derived.Test.YtgjjeggopeppfaaRefLays
import Derived.Test.YtgjjeggopeppfaaRefTurns
import Derived.Test.YtgjjeggopeppfaaLies
import Derived.Test.YtgjjeggopeppfaaSeqP
import Derived.Test.YtgjjeggopeppfaaSeqRN
import Derived.Test.YtgjjeggopeppfaaReadsB
import Derived.Test.YtgjjeggopeppfaaForks
import Derived.Test.YtgjjeggopeppfaaRooms
import Derived.Test.YtgjjeggopeppfaaDocAt
import Derived.Test.YtgjjeggopeppfaaDocRd
import Derived.Test.YtgjjeggopeppfaaDocKeep
import Derived.Test.YtgjjeggopeppfaaRegPg
import Derived.Test.YtgjjeggopeppfaaRegAB
import Derived.Test.YtgjjeggopeppfaaDocAp0
import Derived.Test.YtgjjeggopeppfaaSmalls
import Derived.Test.YtgjjeggopeppfaaDocAppE
import Derived.WalkKit
import Derived.ProofKit
import Derived.OpenShut
import Derived.Below
import Derived.WalkLawsBesides
import Derived.Deep.QuietTactic
import Derived.BigQuiet
import Derived.Deep.RegionHeld3
import Derived.Deep.RegionWith
namespace Go.Proofs.Ytgjjeggopeppfaa
open Go.ChangeShapes Go.WideShapes Go.ChangeAt Go.RowKit
set_option linter.unusedVariables false
set_option linter.unusedSimpArgs false

/-- behind a fork of the document's -/
def ForkR (B : Nat) (w : World) (b g : Nat) (t : ByteArray) (wd : Nat) (s : Pl) (r : Nat → Nat) (q : Sq) (x' : Nat) (w' : World) : Prop :=
  ∃ a' c', w.heap.size ≤ x' ∧ RefAt B w' b g s r ∧ DocAt B w' x' b t wd q a' c' ∧ (∀ k, blkOf a' k → w.heap.size ≤ k) ∧ Off B TQ w w'
set_option maxRecDepth 4000 in
set_option maxHeartbeats 4000000 in
theorem rfork_call {g m : Nat} {s : Pl} {r0 : Nat → Nat} {B : Nat} {w : World} {x b : Nat} {t : ByteArray} {wd : Nat} {q : Sq} {a : Option Addr} {c : Nat} (h : DocAt B w x b t wd q a c) (hp : RefAt B w b g s r0) (hG : Good m s) (hm : m + 1000 ≤ 1000000) (hl : q.P.length ≤ 1000) :
    Calls Try.prog 15 #[.pointer (some ⟨x, 0, none⟩)] w fun e w' => ∃ x', e = .returned (.pointer (some ⟨x', 0, none⟩)) ∧ ForkR B w b g t wd (forkS s q) r0 q x' w' := by
  have hB : B ≤ w.heap.size := Nat.le_trans hp.Bb (Nat.le_of_lt hp.top.lt)
  have H := hidden_ h
  have HP := hidden_ hp
  have HG := hidden_ hG
  have hfin : Hid (forkS s q = (q.P.take q.P.length).foldl shS s) := by rw [List.take_length]; exact (rfl : forkS s q = _)
  obtain ⟨Fs, eF⟩ : ∃ Fs, forkS s q = Fs := ⟨_, rfl⟩
  rw [eF] at hfin ⊢
  obtain ⟨L, eL⟩ : ∃ L, q.P.length = L := ⟨_, rfl⟩
  have HL := hidden_ eL
  rw [eL] at hl hfin
  clear h hp hG eF eL
  go_enter Try.func15, Try.ntmps15
  go_wp2
  go_loopw [3] (fun i wr => ∃ k : Nat, k ≤ L ∧ i = .int .i64 k ∧ RefAt B wr b g ((q.P.take k).foldl shS s) r0 ∧ Off B TQ w wr) (fun i _ => L - (intOf i).toNat)
  case atStart => exact ⟨0, Nat.zero_le _, rfl, HP.out, Off.refl _ _ _⟩
  case round =>
    obtain ⟨k, hk, rfl, hp, ho⟩ := hrel
    have hs := H.out.off ho rfl rfl
    have c3 := hs.c3
    rw [HL.out] at c3
    by_cases hlt : k < L
    · have hl' : k < q.P.length := by rw [HL.out]; exact hlt
      obtain ⟨y, ea, hc⟩ := hs.page hl'
      have hg := (HG.out.shares (q.P.take k)).mono (show m + (q.P.take k).length ≤ 1000000 by rw [List.length_take]; omega)
      have k42 := refShare_call (w := wr.drew) (hp.drewN 1) hg (Nat.le_refl _) (q.P.getD k 0)
      rw [← fold_snoc shS s hl'] at k42
      obtain ⟨Z, eZ⟩ : ∃ Z, q.P.getD k 0 = Z := ⟨_, rfl⟩
      rw [eZ] at k42 hc
      have hcall : ∀ w', w' = wr.drew → Calls Try.prog 42 #[.pointer (some ⟨b, 0, none⟩), .int .i64 Z] w' fun e W' => ∃ v, e = .returned v ∧ (fun W => RefAt B W b g ((q.P.take (k + 1)).foldl shS s) r0 ∧ Off B TQ w W) W' := by
        intro w' hw'
        subst hw'
        refine k42.mono ?_
        rintro e W4 ⟨rfl, hp4, ho4⟩
        have ho5 : Off B TQ wr W4 := ⟨ho4.os, ho4.tape, ho4.output, ho4.size, ho4.block⟩
        exact ⟨_, rfl, hp4, ho.trans ho5⟩
      have HC := hidden_ hcall
      have d0 := hs.c0
      rw [ea] at c3
      clear hcall k42 hg hs hp ho eZ hl' ea
      go_wp2
      refine rs_region x b L c k y Z (fun W => RefAt B W b g ((q.P.take (k + 1)).foldl shS s) r0 ∧ Off B TQ w W) (by kernel_rfl) rfl ⟨_, rfl, rfl, rfl, rfl, by kernel_rfl⟩ ⟨_, rfl, rfl, rfl, rfl, by kernel_rfl⟩ ⟨_, rfl, rfl, rfl, rfl, by kernel_rfl⟩ ⟨_, rfl, rfl, rfl, rfl, by kernel_rfl⟩ ⟨_, rfl, rfl, rfl, rfl, by kernel_rfl⟩ ⟨_, rfl, rfl, rfl, rfl, by kernel_rfl⟩ ⟨_, rfl, rfl, rfl, rfl, by kernel_rfl⟩ ⟨_, rfl, rfl, rfl, rfl, by kernel_rfl⟩ ⟨_, rfl, rfl, rfl, rfl, by kernel_rfl⟩ ⟨_, rfl, rfl, rfl, rfl, by kernel_rfl⟩ ⟨_, rfl, rfl, rfl, rfl, by kernel_rfl⟩ ⟨_, rfl, rfl, rfl, rfl, by kernel_rfl⟩ ⟨fun _ => rfl, fun h => by cases h⟩ (fun w => run_fa51 x 0 (by decide) w) (fun l w hw hl => by rw [hw.1 hl]; exact run_load28 (w := wr.drew) d0) (fun w => run_fa51 x 3 (by decide) w) (fun l w hw hl => by rw [hw.1 hl]; exact run_load49 (w := wr.drew) c3) (fun w => run_ix49 y L c k hlt w) (fun l w hw hl => by rw [hw.1 hl]; exact run_load3 (w := wr.drew) hc) rfl rfl HC.out (Nat.le_of_ble_eq_true rfl) ?_
      intro l9 a9 W9 hall hs hd hkp hS9 hval
      have HT9 := hidden_ (hS9.2 (hall 11 (by decide)))
      have ep := frame_puts [13, 14, 15, 16, 17, 18, 19, 20, 21, 22, 23, 24] hs hd (fun s h => hkp s (fun i hi e => h (by
        rcases (show i = 0 ∨ i = 1 ∨ i = 2 ∨ i = 3 ∨ i = 4 ∨ i = 5 ∨ i = 6 ∨ i = 7 ∨ i = 8 ∨ i = 9 ∨ i = 10 ∨ i = 11 by omega) with rfl | rfl | rfl | rfl | rfl | rfl | rfl | rfl | rfl | rfl | rfl | rfl <;> first | (simp only [rsD, Option.some.injEq] at e; subst e; simp; done) | (simp [rsD] at e; done))))
      simp only [List.foldl] at ep
      clear hs hd hkp hval hS9 hall 
      generalize a9.tmps.getD 13 undef = g13 at ep
      generalize a9.tmps.getD 14 undef = g14 at ep
      generalize a9.tmps.getD 15 undef = g15 at ep
      generalize a9.tmps.getD 16 undef = g16 at ep
      generalize a9.tmps.getD 17 undef = g17 at ep
      generalize a9.tmps.getD 18 undef = g18 at ep
      generalize a9.tmps.getD 19 undef = g19 at ep
      generalize a9.tmps.getD 20 undef = g20 at ep
      generalize a9.tmps.getD 21 undef = g21 at ep
      generalize a9.tmps.getD 22 undef = g22 at ep
      generalize a9.tmps.getD 23 undef = g23 at ep
      generalize a9.tmps.getD 24 undef = g24 at ep
      simp only [Act.put, List.setIfInBounds_toArray, List.set_cons_succ, List.set_cons_zero] at ep
      subst ep
      go_wp2
      go_roundw
      case rel => exact ⟨k + 1, by omega, by go_num, HT9.out.1, HT9.out.2⟩
      case measure => simp [intOf]; omega
    · have e : k = L := by omega
      subst e
      rw [← hfin.out] at hp
      have hrd : Hid (∀ w', Below wr.heap.size wr w' → Reads .i64 w' a k q.P) := fun w' hb => by have := (hs.below hb).pg; rw [HL.out] at this; exact this
      have hx := hs.top.lt
      have HO := hidden_ (And.intro hp (And.intro ho hs))
      have cc : ∀ {j : Nat} {v : Value}, wr.cell? ⟨x, j, none⟩ = some v → ∀ w', Below wr.heap.size wr w' → w'.cell? ⟨x, j, none⟩ = some v := fun hj w' hb => (hb.cell hx).trans hj
      have c0 := hs.c0
      have c1 := hs.c1
      have c2 := hs.c2
      have c4 := hs.c4
      have c5 := hs.c5
      clear hp ho hs hx
      go_wp2
      refine rf_region x b wd k c q.st q.n wr.heap.size t a q.P (by kernel_rfl) rfl ⟨_, rfl, rfl, rfl, rfl, by kernel_rfl⟩ ⟨_, rfl, rfl, rfl, rfl, by kernel_rfl⟩ ⟨_, rfl, rfl, rfl, rfl, by kernel_rfl⟩ ⟨_, rfl, rfl, rfl, rfl, by kernel_rfl⟩ ⟨_, rfl, rfl, rfl, rfl, by kernel_rfl⟩ ⟨_, rfl, rfl, rfl, rfl, by kernel_rfl⟩ ⟨_, rfl, rfl, rfl, rfl, by kernel_rfl⟩ ⟨_, rfl, rfl, rfl, rfl, by kernel_rfl⟩ ⟨_, rfl, rfl, rfl, rfl, by kernel_rfl⟩ ⟨_, rfl, rfl, rfl, rfl, by kernel_rfl⟩ ⟨_, rfl, rfl, rfl, rfl, by kernel_rfl⟩ ⟨_, rfl, rfl, rfl, rfl, by kernel_rfl⟩ ⟨_, rfl, rfl, rfl, rfl, by kernel_rfl⟩ ⟨_, rfl, rfl, rfl, rfl, by kernel_rfl⟩ ⟨_, rfl, rfl, rfl, rfl, by kernel_rfl⟩ ⟨_, rfl, rfl, rfl, rfl, by kernel_rfl⟩ ⟨_, rfl, rfl, rfl, rfl, by kernel_rfl⟩ ⟨_, rfl, rfl, rfl, rfl, by kernel_rfl⟩ ⟨_, rfl, rfl, rfl, rfl, by kernel_rfl⟩ ⟨_, rfl, rfl, rfl, rfl, by kernel_rfl⟩ ⟨_, rfl, rfl, rfl, rfl, by kernel_rfl⟩ ⟨_, rfl, rfl, rfl, rfl, by kernel_rfl⟩ ⟨_, rfl, rfl, rfl, rfl, by kernel_rfl⟩ ⟨_, rfl, rfl, rfl, rfl, by kernel_rfl⟩ ⟨_, rfl, rfl, rfl, rfl, by kernel_rfl⟩ ⟨_, rfl, rfl, rfl, rfl, by kernel_rfl⟩ ⟨_, rfl, rfl, rfl, rfl, by kernel_rfl⟩ ⟨_, rfl, rfl, rfl, rfl, by kernel_rfl⟩ ⟨_, rfl, rfl, rfl, rfl, by kernel_rfl⟩ ⟨rfl, rfl, rfl, Nat.le_refl _, fun _ _ => rfl⟩ (fun w => run_fa51 x 0 (by decide) w) (fun l w hw => run_load28 (cc c0 w hw)) (fun w => run_fa51 x 1 (by decide) w) (fun l w hw => run_load9 (cc c1 w hw)) (fun w => run_fa51 x 2 (by decide) w) (fun l w hw => run_load3 (cc c2 w hw)) (fun w => run_fa51 x 3 (by decide) w) (fun l w hw => run_load49 (cc c3 w hw)) (fun w => run_fa51 x 4 (by decide) w) (fun l w hw => run_load3 (cc c4 w hw)) (fun w => run_fa51 x 5 (by decide) w) (fun l w hw => run_load3 (cc c5 w hw)) rfl rfl hl (type_at rfl rfl) hrd.out (Nat.le_of_ble_eq_true rfl) ?_
      intro l9 a9 W9 hall hs hd hkp hS9 hval
      obtain ⟨x9, ca, c9, e2, hx9, hh9, hr9⟩ := hval 28 2 (by decide) rfl
      have HS := hidden_ (And.intro (show Below wr.heap.size wr W9 from hS9) (And.intro hx9 (And.intro hh9 hr9)))
      clear hx9 hh9 hr9
      have ep := frame_puts [25, 26, 27, 28, 29, 30, 31, 32, 33, 34, 35, 36, 37, 38, 39, 40, 41, 42, 43, 44, 45, 46, 47, 48, 49, 50, 51, 52, 2] hs hd (fun s h => hkp s (fun i hi e => h (by
        rcases (show i = 0 ∨ i = 1 ∨ i = 2 ∨ i = 3 ∨ i = 4 ∨ i = 5 ∨ i = 6 ∨ i = 7 ∨ i = 8 ∨ i = 9 ∨ i = 10 ∨ i = 11 ∨ i = 12 ∨ i = 13 ∨ i = 14 ∨ i = 15 ∨ i = 16 ∨ i = 17 ∨ i = 18 ∨ i = 19 ∨ i = 20 ∨ i = 21 ∨ i = 22 ∨ i = 23 ∨ i = 24 ∨ i = 25 ∨ i = 26 ∨ i = 27 ∨ i = 28 by omega) with rfl | rfl | rfl | rfl | rfl | rfl | rfl | rfl | rfl | rfl | rfl | rfl | rfl | rfl | rfl | rfl | rfl | rfl | rfl | rfl | rfl | rfl | rfl | rfl | rfl | rfl | rfl | rfl | rfl <;> first | (simp only [rfD, Option.some.injEq] at e; subst e; simp; done) | (simp [rfD] at e; done))))
      simp only [List.foldl] at ep
      rw [e2] at ep
      clear hs hd hkp hval hS9 hall e2
      generalize a9.tmps.getD 25 undef = g25 at ep
      generalize a9.tmps.getD 26 undef = g26 at ep
      generalize a9.tmps.getD 27 undef = g27 at ep
      generalize a9.tmps.getD 28 undef = g28 at ep
      generalize a9.tmps.getD 29 undef = g29 at ep
      generalize a9.tmps.getD 30 undef = g30 at ep
      generalize a9.tmps.getD 31 undef = g31 at ep
      generalize a9.tmps.getD 32 undef = g32 at ep
      generalize a9.tmps.getD 33 undef = g33 at ep
      generalize a9.tmps.getD 34 undef = g34 at ep
      generalize a9.tmps.getD 35 undef = g35 at ep
      generalize a9.tmps.getD 36 undef = g36 at ep
      generalize a9.tmps.getD 37 undef = g37 at ep
      generalize a9.tmps.getD 38 undef = g38 at ep
      generalize a9.tmps.getD 39 undef = g39 at ep
      generalize a9.tmps.getD 40 undef = g40 at ep
      generalize a9.tmps.getD 41 undef = g41 at ep
      generalize a9.tmps.getD 42 undef = g42 at ep
      generalize a9.tmps.getD 43 undef = g43 at ep
      generalize a9.tmps.getD 44 undef = g44 at ep
      generalize a9.tmps.getD 45 undef = g45 at ep
      generalize a9.tmps.getD 46 undef = g46 at ep
      generalize a9.tmps.getD 47 undef = g47 at ep
      generalize a9.tmps.getD 48 undef = g48 at ep
      generalize a9.tmps.getD 49 undef = g49 at ep
      generalize a9.tmps.getD 50 undef = g50 at ep
      generalize a9.tmps.getD 51 undef = g51 at ep
      generalize a9.tmps.getD 52 undef = g52 at ep
      simp only [Act.put, List.setIfInBounds_toArray, List.set_cons_succ, List.set_cons_zero] at ep
      subst ep
      obtain ⟨hb9, hx9, hh9, hr9⟩ := HS.out
      obtain ⟨p, o, -⟩ := HO.out
      have hsz := o.size
      have hce : ∀ (j : Nat) (v : Value), (#[Value.pointer (some ⟨b, 0, none⟩), .string t, .int .i64 (wd : Nat), .slice ca k c9, .int .i64 (q.st : Nat), .int .i64 (q.n : Nat)] : Array Value)[j]? = some v → W9.cell? ⟨x9, j, none⟩ = some v := fun j v hj => by unfold World.cell?; rw [hh9]; exact hj
      have hd : DocAt B W9 x9 b t wd q ca c9 := ⟨by omega, ⟨_, hh9, rfl⟩, hce 0 _ rfl, hce 1 _ rfl, hce 2 _ rfl, by rw [HL.out]; exact hce 3 _ rfl, hce 4 _ rfl, hce 5 _ rfl, by rw [HL.out]; exact hr9.reads, fun j hj => (hr9.block hj).2, by rw [HL.out]; exact own_cap hr9.own, hr9.caps.1, hr9.caps.2⟩
      have HF := hidden_ (show ForkR B w b g t wd Fs r0 q x9 W9 from ⟨ca, c9, by omega, p.below hb9, hd, fun j hj => by have := (hr9.block hj).1; omega, o.trans (Off.of_below (B := B) (T := TQ) hb9)⟩)
      clear hb9 hx9 hh9 hr9 p o hsz hce hd
      go_wp2
      go_ret
      exact ⟨_, rfl, HF.out⟩

end Go.Proofs.Ytgjjeggopeppfaa

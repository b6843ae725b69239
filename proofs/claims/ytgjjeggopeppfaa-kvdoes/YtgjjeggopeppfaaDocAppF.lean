/- The document appends a row into a copy of its last page. -/
import Derived.Test.YtgjjeggopeppfaaRows
import Derived.Test.YtgjjeggopeppfaaPages
import Derived.Test.YtgjjeggopeppfaaBasis
import Derived.Test.YtgjjeggopeppfaaLeast
import Derived.Test.YtgjjeggopeppfaaLays
import Derived.Test.YtgjjeggopeppfaaTurns
import Derived.Test.YtgjjeggopeppfaaGoods
import Derived.Test.YtgjjeggopeppfaaRefA
import Derived.Test.YtgjjeggopeppfaaRefTk
import Derived.Test.YtgjjeggopeppfaaRefLays
import Derived.Test.YtgjjeggopeppfaaRefTurns
import Derived.Test.YtgjjeggopeppfaaLies
import Derived.Test.YtgjjeggopeppfaaSeqP
import Derived.Test.YtgjjeggopeppfaaSeqRN
import Derived.Test.YtgjjeggopeppfaaReadsB
import Derived.Test.YtgjjeggopeppfaaForks
import Derived.Test.YtgjjeggopeppfaaRooms
import Derived.Test.YtgjjeggopeppfaaDocAt
import Derived.Test.YtgjjeggopeppfaaDocRd
import Derived.Test.YtgjjeggopeppfaaDocKeep
import Derived.Test.YtgjjeggopeppfaaRegPg
import Derived.Test.YtgjjeggopeppfaaRegAB
import Derived.Test.YtgjjeggopeppfaaDocAp0
import Derived.Test.YtgjjeggopeppfaaSmalls
import Derived.Test.YtgjjeggopeppfaaDocAppN
import Derived.Test.YtgjjeggopeppfaaDocAppE
import Derived.WalkKit
import Derived.ProofKit
import Derived.OpenShut
import Derived.Below
import Derived.WalkLawsBesides
import Derived.Deep.QuietTactic
import Derived.BigQuiet
import Derived.Deep.RegionHeld3
import Derived.Deep.RegionWith
namespace Go.Proofs.Ytgjjeggopeppfaa
open Go.ChangeShapes Go.WideShapes Go.ChangeAt Go.RowKit
set_option linter.unusedVariables false
set_option linter.unusedSimpArgs false

set_option maxRecDepth 8000 in
set_option maxHeartbeats 4000000 in
theorem rapp_fit {g m : Nat} {s : Pl} {r0 : Nat → Nat} {B : Nat} {w : World} {x b : Nat} {t : ByteArray} {wd : Nat} {q : Sq} {a : Option Addr} {c : Nat} (h : DocAt B w x b t wd q a c) (hp : RefAt B w b g s r0) (hG : Good m s) (hm : 1 ≤ m ∧ m ≤ 1000000) (hq : SqOk wd q) (hn : q.n < 1000) (ra : Option Addr) (rc : Nat) (zs : List Int) (hr : Apart B w ra wd zs s r0) {S1 : Pl} {P1 : List Int} (h0 : roomE wd t s q = 0) (hS1 : roomS wd t s q = S1) (hP1 : roomP wd t s q = P1) (hnd : needB wd s q = true) (hte : takeE s t 1 = 0) (hf : fitB wd q = true) :
    Calls Try.prog 13 #[.pointer (some ⟨x, 0, none⟩), .slice ra wd rc] w fun e w' => e = .returned (.int .i64 0) ∧ DidR B w x b g t wd a (rowTo S1 (pageZ wd P1 q.st q.n) (cellN wd q.st q.n) zs wd) ⟨P1, q.st, q.n + 1⟩ w' := by
  obtain ⟨l1, l2⟩ := room_lt hq h0
  rw [hP1] at l1
  have hidx : (q.n - q.st) / (32 / wd) < P1.length := by rw [Nat.div_lt_iff_lt_mul (by have := hq.rr; omega)]; exact l1
  have hGr := hG.roomS (wd := wd) hm.1 t q
  rw [hS1] at hGr
  have hcl := hidden_ fun k hk => cell_lt hq.w0 hq.w1 q.st q.n k hk
  have hlt := cell_lt hq.w0 hq.w1 q.st q.n 0 hq.w0
  have hst := hq.st
  have w0 := hq.w0
  have w1 := hq.w1
  have r1 := rr_le wd
  have r2 := hq.rr
  have hl1 : q.P.length ≤ 1000 := Nat.le_trans hq.len hq.few
  have k40 : Hid (∀ W q' a' c', DocAt B W x b t wd q' a' c' → Calls Try.prog 40 #[.pointer (some ⟨x, 0, none⟩)] W fun e w' => e = .returned (.int .i64 ((32 / wd : Nat) : Int)) ∧ w' = W) := fun W q' a' c' hW => rrows_call hW ⟨hq.w0, hq.w1⟩
  have k34 := rneed_call h hp hG hq
  have c2 := h.c2
  have c0 := h.c0
  have c1 := h.c1
  have H := hidden_ h
  have HP := hidden_ hp
  have HA := hidden_ hr
  have HG := hidden_ hGr
  have hpl := fit_len hq hf
  have eS : roomS wd t s q = if fitB wd q = true then drS (copyTo (takeS s t 1) (lastZ q.P) (takenZ s t) 32) (lastZ q.P) else takeS s t 1 := by unfold roomS; rw [if_pos ⟨hnd, hte⟩]
  have eP : roomP wd t s q = if fitB wd q = true then q.P.set (q.P.length - 1) (takenZ s t) else q.P ++ [takenZ s t] := by unfold roomP; rw [if_pos ⟨hnd, hte⟩]
  unfold needV at k34
  rw [if_pos hnd] at k34
  rw [eS, hf] at hS1
  rw [eP, hf] at hP1
  have k35 : Hid (∀ W, RefAt B W b g s r0 → Calls Try.prog 35 #[.pointer (some ⟨b, 0, none⟩), .string t, .int .i64 1] W fun e w' => ∃ a l c, e = .returned (.tuple #[.slice a l c, .int .i64 (takeE s t 1)]) ∧ RowI W.heap.size w' a l c (takeR s t 1) ∧ (∃ r', RefAt B w' b g (takeS s t 1) r' ∧ Fresh W.heap.size s (takeS s t 1) r0 r') ∧ Off B TQ W w') := fun W hW => refTakes_call hW (Nat.le_trans hW.Bb (Nat.le_of_lt hW.top.lt)) hG t 1
  have hn2 : Hid ((takeS s t 1).n = s.n) := takeS_n s t 1
  obtain ⟨t1, -, -, -⟩ := takeR_one hG hte
  have hY := taken_wf hG hte
  have hG2 := hidden_ (hG.takeS hm.1 t 1)
  have k36 : Hid (∀ W, DocAt B W x b t wd q a c → Calls Try.prog 36 #[.pointer (some ⟨x, 0, none⟩)] W fun e w' => e = .returned (.bool (fitB wd q)) ∧ ∃ m, w' = W.drewN m) := fun W hW => fits_call hW hq
  rw [hf] at k36
  simp only [hte, t1] at k35
  obtain ⟨Y, eY⟩ : ∃ Y, takenZ s t = Y := ⟨_, rfl⟩
  rw [eY] at hY hS1 hP1
  simp only [eY] at k35
  obtain ⟨S2, eS2⟩ : ∃ S2, takeS s t 1 = S2 := ⟨_, rfl⟩
  rw [eS2] at hS1
  simp only [eS2] at k35 hn2 hG2
  rw [if_pos rfl] at hS1 hP1
  obtain ⟨L, eL⟩ : ∃ L, q.P.length = L + 1 := ⟨q.P.length - 1, by omega⟩
  have eZ0 : lastZ q.P = q.P.getD L 0 := by unfold lastZ; rw [eL]; rfl
  rw [eL, Nat.add_sub_cancel, ← set_last q.P L eL] at hP1
  obtain ⟨Z0, eZ1⟩ : ∃ Z0, lastZ q.P = Z0 := ⟨_, rfl⟩
  rw [eZ1] at hS1 eZ0
  have HE := hidden_ (And.intro hS1 hP1)
  have HL := hidden_ (And.intro eL eZ0)
  rw [eL] at hl1
  have hm2 := hm.2
  have eI : ((L + 1 : Nat) : Int) - 1 = (L : Int) := by omega
  clear hS1 hP1 eS eP hnd h0 hte hf eY eS2 t1 eL eZ0 eZ1 hpl
  unfold pageZ cellN
  unfold cellN at hlt hcl
  obtain ⟨r, er⟩ : ∃ r : Nat, 32 / wd = r := ⟨_, rfl⟩
  simp only [er] at k40 r1 r2 hlt hidx hcl ⊢
  obtain ⟨n, en⟩ : ∃ n, q.n = n := ⟨_, rfl⟩
  obtain ⟨st, es⟩ : ∃ st, q.st = st := ⟨_, rfl⟩
  simp only [en, es] at hn hst hidx hlt hcl ⊢
  have HQ := hidden_ (And.intro en es)
  obtain ⟨d, ed⟩ : ∃ d : Nat, n - st = d := ⟨_, rfl⟩
  have e0 : (n : Int) - (st : Int) = (d : Int) := by omega
  simp only [ed] at hidx hlt hcl ⊢
  have e1 := tdivN d r
  have e2 := tmodN d r
  have hQ : d / r ≤ 1000 := Nat.le_trans (Nat.div_le_self d r) (by omega)
  have hM : d % r ≤ 32 := by have := Nat.mod_lt d (show 0 < r by omega); omega
  obtain ⟨Q, eQ⟩ : ∃ Q, d / r = Q := ⟨_, rfl⟩
  obtain ⟨M, eM⟩ : ∃ M, d % r = M := ⟨_, rfl⟩
  rw [eQ] at e1 hQ hidx
  rw [eM] at e2 hlt hM
  simp only [eQ, eM] at hcl ⊢
  have x1 := wrap_nat (n := Q) (by omega)
  have x2 := wrap_nat (n := M) (by omega)
  obtain ⟨C, eC⟩ : ∃ C, M * wd = C := ⟨_, rfl⟩
  have e3 : (M : Int) * (wd : Int) = (C : Int) := by rw [← Int.natCast_mul, eC]
  rw [eC] at hlt
  simp only [eC] at hcl ⊢
  have x3 := wrap_nat (n := C) (by omega)
  have z' : ¬ ((r : Int) = 0) := by omega
  have z : ((r : Int) == 0) = false := by simp; omega
  obtain ⟨Z, eZ⟩ : ∃ Z, P1.getD Q 0 = Z := ⟨_, rfl⟩
  rw [eZ]
  have HZ := hidden_ eZ
  obtain ⟨D, eD⟩ : ∃ D, rowTo S1 Z (C : Int) zs wd = D := ⟨_, rfl⟩
  rw [eD]
  have HD := hidden_ eD
  clear h hp hG hq hr l1 l2 hGr er en es ed eQ eM eC eZ eD
  go_enter Try.func13, Try.ntmps13
  go_wp2_with (first
    | (go_at_call 34; refine k34.mono ?_; rintro e W1 ⟨rfl, m1, h1⟩; have HW := hidden_ h1; clear h1 k34))
  have hcall : ∀ w', w' = W1.drew → Calls Try.prog 35 #[.pointer (some ⟨b, 0, none⟩), .string t, .int .i64 1] w' fun e W' => ∃ v, e = .returned (.tuple #[v, .int .i64 0]) ∧ (fun v W => ∃ a1 l1 p1, v = .slice a1 l1 p1 ∧ RowI w.heap.size W a1 l1 p1 [Y] ∧ (∃ r', RefAt B W b g S2 r' ∧ Apart B W ra wd zs S2 r') ∧ DocAt B W x b t wd q a c ∧ Off B TQ w W) v W' := by
    intro w' hw'
    subst hw'
    have hb : Below w.heap.size w W1.drew := by rw [HW.out]; exact ⟨rfl, rfl, rfl, Nat.le_refl _, fun _ _ => rfl⟩
    have hz : W1.drew.heap.size = w.heap.size := by rw [HW.out]; rfl
    have k35 := k35.out _ (HP.out.below hb)
    rw [hz] at k35
    refine k35.mono ?_
    rintro e W' ⟨a1, l1, p1, rfl, hr1, ⟨r', hp1, hf1⟩, ho1⟩
    have ho2 : Off B TQ w W' := (Off.of_below (B := B) (T := TQ) hb).trans ho1
    exact ⟨_, rfl, a1, l1, p1, rfl, hr1, ⟨r', hp1, HA.out.off ho2 rfl hn2.out hf1⟩, H.out.off ho2 rfl rfl, ho2⟩
  have HC4 := hidden_ hcall
  clear hcall
  have c01 : W1.drew.cell? ⟨x, 0, none⟩ = some (.pointer (some ⟨b, 0, none⟩)) := by rw [HW.out]; exact c0
  have c11 : W1.drew.cell? ⟨x, 1, none⟩ = some (.string t) := by rw [HW.out]; exact c1
  refine rt_region x b t 0 (fun v W => ∃ a1 l1 p1, v = .slice a1 l1 p1 ∧ RowI w.heap.size W a1 l1 p1 [Y] ∧ (∃ r', RefAt B W b g S2 r' ∧ Apart B W ra wd zs S2 r') ∧ DocAt B W x b t wd q a c ∧ Off B TQ w W) (by kernel_rfl) rfl ⟨_, rfl, rfl, rfl, rfl, by kernel_rfl⟩ ⟨_, rfl, rfl, rfl, rfl, by kernel_rfl⟩ ⟨_, rfl, rfl, rfl, rfl, by kernel_rfl⟩ ⟨_, rfl, rfl, rfl, rfl, by kernel_rfl⟩ ⟨_, rfl, rfl, rfl, rfl, by kernel_rfl⟩ ⟨_, rfl, rfl, rfl, rfl, by kernel_rfl⟩ ⟨_, rfl, rfl, rfl, rfl, by kernel_rfl⟩ ⟨_, rfl, rfl, rfl, rfl, by kernel_rfl⟩ ⟨_, rfl, rfl, rfl, rfl, by kernel_rfl⟩ ⟨_, rfl, rfl, rfl, rfl, by kernel_rfl⟩ ⟨_, rfl, rfl, rfl, rfl, by kernel_rfl⟩ ⟨_, rfl, rfl, rfl, rfl, by kernel_rfl⟩ ⟨_, rfl, rfl, rfl, rfl, by kernel_rfl⟩ ⟨_, rfl, rfl, rfl, rfl, by kernel_rfl⟩ (fun _ => rfl) (fun w => run_fa51 x 0 (by decide) w) (fun l w hw hl => by rw [hw hl]; exact run_load28 c01) (fun w => run_fa51 x 1 (by decide) w) (fun l w hw hl => by rw [hw hl]; exact run_load9 c11) rfl HC4.out (Nat.le_of_ble_eq_true rfl) ?_
  intro l9 a9 W2 hall hs hd hkp hS9 hval
  obtain ⟨v5, e5, a1, l1, p1, rfl, hT⟩ := hval 12 5 (by decide) rfl
  have e6 : a9.tmps.getD 6 undef = .int .i64 0 := hval 13 6 (by decide) rfl
  have HT := hidden_ hT
  clear hT
  have ep := frame_puts [25, 26, 27, 28, 29, 30, 31, 32, 33, 24, 34, 35, 5, 6] hs hd (fun s h => hkp s (fun i hi e => h (by
    rcases (show i = 0 ∨ i = 1 ∨ i = 2 ∨ i = 3 ∨ i = 4 ∨ i = 5 ∨ i = 6 ∨ i = 7 ∨ i = 8 ∨ i = 9 ∨ i = 10 ∨ i = 11 ∨ i = 12 ∨ i = 13 by omega) with rfl | rfl | rfl | rfl | rfl | rfl | rfl | rfl | rfl | rfl | rfl | rfl | rfl | rfl <;> first | (simp only [rtD, Option.some.injEq] at e; subst e; simp; done) | (simp [rtD] at e; done))))
  simp only [List.foldl] at ep
  rw [e5] at ep
  rw [e6] at ep
  clear hs hd hkp hval hS9 hall e5 e6
  generalize a9.tmps.getD 25 undef = g25 at ep
  generalize a9.tmps.getD 26 undef = g26 at ep
  generalize a9.tmps.getD 27 undef = g27 at ep
  generalize a9.tmps.getD 28 undef = g28 at ep
  generalize a9.tmps.getD 29 undef = g29 at ep
  generalize a9.tmps.getD 30 undef = g30 at ep
  generalize a9.tmps.getD 31 undef = g31 at ep
  generalize a9.tmps.getD 32 undef = g32 at ep
  generalize a9.tmps.getD 33 undef = g33 at ep
  generalize a9.tmps.getD 24 undef = g24 at ep
  generalize a9.tmps.getD 34 undef = g34 at ep
  generalize a9.tmps.getD 35 undef = g35 at ep
  simp only [Act.put, List.setIfInBounds_toArray, List.set_cons_succ, List.set_cons_zero] at ep
  subst ep
  have l1e : l1 = 1 := HT.out.1.len.symm
  subst l1e
  obtain ⟨y1, rfl⟩ := HT.out.1.reads.some_ (by omega)
  have kk := k36.out W2 HT.out.2.2.1
  go_wp2_with (first
    | (go_at_call 36; refine kk.mono ?_; rintro e W3 ⟨rfl, m3, h3⟩; have HW3 := hidden_ h3; clear h3 kk))
  have hb3 : Below W2.heap.size W2 W3 := by rw [HW3.out]; exact ⟨rfl, rfl, rfl, Nat.le_refl _, fun _ _ => rfl⟩
  obtain ⟨y2, ⟨r3, p2, ap2⟩, s2, o2⟩ := HT.out
  have p3 := p2.below hb3
  have ap3 := ap2.below hb3
  have s3 := s2.below hb3
  have o3 : Off B TQ w W3 := o2.trans (Off.of_below (B := B) (T := TQ) hb3)
  have y3 := y2.below hb3
  have e3S : OffS B TR (fun k => k = x) w W3 := (o3.mono TQ_TR').toS (fun k => k = x)
  clear p2 ap2 s2 o2 y2 hb3
  obtain ⟨ya, ea, hca⟩ := s3.page (i := L) (by have := HL.out.1; omega)
  rw [← HL.out.2] at hca
  have c33 := s3.c3
  rw [HL.out.1, ea] at c33
  have H3 := hidden_ (And.intro p3 (And.intro ap3 (And.intro s3 (And.intro e3S (And.intro y3 ea)))))
  clear p3 ap3 s3 o3 y3 e3S ea
  go_wp2
  go_quiet (fail)
  go_wp2
  go_loopw [8] (fun i wr => ∃ k : Nat, k ≤ 32 ∧ i = .int .i64 k ∧ RefAt B wr b g (copyTo S2 Z0 Y k) r3 ∧ Off B TR W3 wr ∧ Apart B wr ra wd zs (copyTo S2 Z0 Y k) r3) (fun i _ => 32 - (intOf i).toNat)
  case atStart =>
    have hb : ∀ m', Below W3.heap.size W3 (W3.drewN m') := fun m' => ⟨rfl, rfl, rfl, Nat.le_refl _, fun _ _ => rfl⟩
    exact ⟨0, Nat.zero_le _, rfl, H3.out.1.below (hb _), Off.of_below (hb _), H3.out.2.1.below (hb _)⟩
  case round =>
    obtain ⟨k, hk, rfl, hp, ho, hap⟩ := hrel
    have sr := H3.out.2.2.1.off ho rfl rfl
    have d0 := sr.c0
    by_cases hlt' : k < 32
    · have hGk := hG2.out.copyTo Z0 Y k
      have k37 := refGet_call hp hGk.n1 hGk.ow0 Z0 k
      have k38 := fun v => refPut_call (w := wr.drew) (hp.drewN 1) hGk Y k v
      have e : putS (copyTo S2 Z0 Y k) Y k (getV (copyTo S2 Z0 Y k) Z0 k) = copyTo S2 Z0 Y (k + 1) := rfl
      obtain ⟨V, eV⟩ : ∃ V, getV (copyTo S2 Z0 Y k) Z0 k = V := ⟨_, rfl⟩
      obtain ⟨E, eE⟩ : ∃ E, getE (copyTo S2 Z0 Y k) Z0 k = E := ⟨_, rfl⟩
      replace k38 := k38 V
      rw [eV] at e k37
      rw [eE] at k37
      have dy : wr.cell? (y1.add 0) = some (.int .i64 Y) := (H3.out.2.2.2.2.1.off ho rfl).reads.cell y1 rfl 0 (by omega)
      have hcall : ∀ w', w' = wr.drew → Calls Try.prog 38 #[.pointer (some ⟨b, 0, none⟩), .int .i64 Y, .int .i64 (k : Int), .int .i64 V] w' fun e W' => ∃ v, e = .returned v ∧ (fun W => RefAt B W b g (copyTo S2 Z0 Y (k + 1)) r3 ∧ Off B TR W3 W ∧ Apart B W ra wd zs (copyTo S2 Z0 Y (k + 1)) r3) W' := by
        intro w' hw'
        subst hw'
        refine k38.mono ?_
        rintro e' W4 ⟨rfl, hp4, ho4, hb4⟩
        have ho5 : Off B TR wr W4 := ⟨ho4.os, ho4.tape, ho4.output, ho4.size, ho4.block⟩
        have ha4 := hap.put (w' := W4) Y k V ho5.size hb4
        rw [e] at ha4 hp4
        exact ⟨_, rfl, hp4, ho.trans ho5, ha4⟩
      have HC := hidden_ hcall
      clear hcall k38 e eV eE hGk hp ho hap sr
      go_wp2_with (first
        | (go_at_call 37; refine k37.mono ?_; rintro e W5 ⟨rfl, h5⟩; obtain rfl := h5.symm; clear k37))
      refine rp_region x b p1 y1 Y (k : Int) V (fun W => RefAt B W b g (copyTo S2 Z0 Y (k + 1)) r3 ∧ Off B TR W3 W ∧ Apart B W ra wd zs (copyTo S2 Z0 Y (k + 1)) r3) (by kernel_rfl) rfl ⟨_, rfl, rfl, rfl, rfl, by kernel_rfl⟩ ⟨_, rfl, rfl, rfl, rfl, by kernel_rfl⟩ ⟨_, rfl, rfl, rfl, rfl, by kernel_rfl⟩ ⟨_, rfl, rfl, rfl, rfl, by kernel_rfl⟩ ⟨_, rfl, rfl, rfl, rfl, by kernel_rfl⟩ ⟨_, rfl, rfl, rfl, rfl, by kernel_rfl⟩ ⟨_, rfl, rfl, rfl, rfl, by kernel_rfl⟩ ⟨_, rfl, rfl, rfl, rfl, by kernel_rfl⟩ ⟨_, rfl, rfl, rfl, rfl, by kernel_rfl⟩ ⟨_, rfl, rfl, rfl, rfl, by kernel_rfl⟩ ⟨fun _ => rfl, fun h => by cases h⟩ (fun w => run_fa51 x 0 (by decide) w) (fun l w hw hl => by rw [hw.1 hl]; exact run_load28 (w := wr.drew) d0) (fun w => run_ix49 y1 1 p1 0 (by decide) w) (fun l w hw hl => by rw [hw.1 hl]; exact run_load3 (w := wr.drew) dy) rfl rfl rfl rfl HC.out (Nat.le_of_ble_eq_true rfl) ?_
      intro l9 a9 W9 hall hs hd hkp hS9 hval
      have HT9 := hidden_ (hS9.2 (hall 9 (by decide)))
      have ep := frame_puts [67, 68, 69, 70, 71, 72, 73, 74, 75, 76] hs hd (fun s h => hkp s (fun i hi e => h (by
        rcases (show i = 0 ∨ i = 1 ∨ i = 2 ∨ i = 3 ∨ i = 4 ∨ i = 5 ∨ i = 6 ∨ i = 7 ∨ i = 8 ∨ i = 9 by omega) with rfl | rfl | rfl | rfl | rfl | rfl | rfl | rfl | rfl | rfl <;> first | (simp only [rpD, Option.some.injEq] at e; subst e; simp; done) | (simp [rpD] at e; done))))
      simp only [List.foldl] at ep
      clear hs hd hkp hval hS9 hall 
      generalize a9.tmps.getD 67 undef = g67 at ep
      generalize a9.tmps.getD 68 undef = g68 at ep
      generalize a9.tmps.getD 69 undef = g69 at ep
      generalize a9.tmps.getD 70 undef = g70 at ep
      generalize a9.tmps.getD 71 undef = g71 at ep
      generalize a9.tmps.getD 72 undef = g72 at ep
      generalize a9.tmps.getD 73 undef = g73 at ep
      generalize a9.tmps.getD 74 undef = g74 at ep
      generalize a9.tmps.getD 75 undef = g75 at ep
      generalize a9.tmps.getD 76 undef = g76 at ep
      simp only [Act.put, List.setIfInBounds_toArray, List.set_cons_succ, List.set_cons_zero] at ep
      subst ep
      go_wp2
      go_roundw
      case rel => exact ⟨k + 1, by omega, by go_num, HT9.out.1, HT9.out.2.1, HT9.out.2.2⟩
      case measure => simp [intOf]; omega
    · have e : k = 32 := by omega
      subst e
      have k39 := refDrop_call hp (hG2.out.copyTo Z0 Y 32) hm2 Z0
      obtain ⟨E, eE⟩ : ∃ E, shE (copyTo S2 Z0 Y 32) Z0 = E := ⟨_, rfl⟩
      rw [eE, HE.out.1] at k39
      have HO := hidden_ (And.intro ho hap)
      clear hp ho hap sr eE
      go_wp2_with (first
        | (go_at_call 39; refine k39.mono ?_; rintro e W5 ⟨rfl, hp5, ho5⟩; have H5 := hidden_ (And.intro hp5 ho5); clear hp5 ho5 k39))
      obtain ⟨p5, o5⟩ := H5.out
      have o35 := HO.out.1.trans (o5.mono TQ_TR')
      have s5 := H3.out.2.2.1.off o35 rfl rfl
      have ap5 : Apart B W5 ra wd zs S1 r3 := HO.out.2.off o5 rfl (by rw [← HE.out.1]; exact drS_n _ _) (by rw [← HE.out.1]; exact fresh_drS _ _ _ _)
      have y5 := H3.out.2.2.2.2.1.off o35 rfl
      have e5S : OffS B TR (fun k => k = x) w W5 := OffS.trans H3.out.2.2.2.1 (o35.toS (fun k => k = x)) (fun _ z => .inl z)
      have d1' : W5.cell? (y1.add 0) = some (.int .i64 Y) := y5.reads.cell y1 rfl 0 (by omega)
      have hyl := World.block_lt_of_cell? W5 _ d1'
      have c35 := s5.c3
      rw [HL.out.1, H3.out.2.2.2.2.2] at c35
      have hxl := s5.top.lt
      have hcap : L + 1 ≤ c := by have := s5.cap; have := HL.out.1; omega
      have hst5 := hidden_ (doc_new (a := a) s5 p5 ap5 e5S (q.P.take L ++ [Y]) (L + 1) (by have := HL.out.1; simp [this]))
      have hrd5 : Hid (∀ w', Below W5.heap.size W5 w' → Reads .i64 w' (some ya) L (q.P.take L)) := fun w' hb => by
        have h1 := (s5.below hb).pg
        rw [H3.out.2.2.2.2.2] at h1
        have := h1.cut 0 L (by have := HL.out.1; omega)
        rw [add_nought, List.drop_zero] at this
        exact this
      clear p5 o5 o35 s5 ap5 y5 e5S
      refine rb_region x L (L + 1) c p1 W5.heap.size (some ya) y1 Y (q.P.take L) (Stands B w x b g t wd a S1 ⟨q.P.take L ++ [Y], q.st, q.n⟩ ra wd zs) (by kernel_rfl) rfl ⟨_, rfl, rfl, rfl, rfl, by kernel_rfl⟩ ⟨_, rfl, rfl, rfl, rfl, by kernel_rfl⟩ ⟨_, rfl, rfl, rfl, rfl, by kernel_rfl⟩ ⟨_, rfl, rfl, rfl, rfl, by kernel_rfl⟩ ⟨_, rfl, rfl, rfl, rfl, by kernel_rfl⟩ ⟨_, rfl, rfl, rfl, rfl, by kernel_rfl⟩ ⟨_, rfl, rfl, rfl, rfl, by kernel_rfl⟩ ⟨_, rfl, rfl, rfl, rfl, by kernel_rfl⟩ ⟨_, rfl, rfl, rfl, rfl, by kernel_rfl⟩ ⟨_, rfl, rfl, rfl, rfl, by kernel_rfl⟩ ⟨_, rfl, rfl, rfl, rfl, by kernel_rfl⟩ ⟨_, rfl, rfl, rfl, rfl, by kernel_rfl⟩ ⟨_, rfl, rfl, rfl, rfl, by kernel_rfl⟩ ⟨_, rfl, rfl, rfl, rfl, by kernel_rfl⟩ ⟨_, rfl, rfl, rfl, rfl, by kernel_rfl⟩ ⟨_, rfl, rfl, rfl, rfl, by kernel_rfl⟩ ⟨_, rfl, rfl, rfl, rfl, by kernel_rfl⟩ ⟨_, rfl, rfl, rfl, rfl, by kernel_rfl⟩ ⟨_, rfl, rfl, rfl, rfl, by kernel_rfl⟩ ⟨_, rfl, rfl, rfl, rfl, by kernel_rfl⟩ ⟨_, rfl, rfl, rfl, rfl, by kernel_rfl⟩ ⟨_, rfl, rfl, rfl, rfl, by kernel_rfl⟩ ⟨fun _ => ⟨rfl, rfl, rfl, Nat.le_refl _, fun _ _ => rfl⟩, fun h => by cases h⟩ (fun w => run_fa51 x 3 (by decide) w) (fun l w hw hl => run_load49 (((hw.1 hl).cell (p := ⟨x, 3, none⟩) hxl).trans c35)) (fun w => run_fa51 x 3 (by decide) w) (fun l w hw hl => run_load49 (((hw.1 hl).cell (p := ⟨x, 3, none⟩) hxl).trans c35)) (fun w => by have := run_sub3 ((L + 1 : Nat) : Int) 1 (by omega) (by omega) w; rw [eI] at this; exact this) (fun w => run_cut49 ya (L + 1) c L (by omega) hcap w) (fun w => run_ix49 y1 1 p1 0 (by decide) w) (fun l w hw hl => run_load3 (((hw.1 hl).cell hyl).trans d1')) (fun w => run_fa51 x 3 (by decide) w) rfl rfl rfl (by omega) hY (type_at rfl rfl) (type_at rfl rfl) hrd5.out hst5.out (Nat.le_of_ble_eq_true rfl) ?_
      intro l9 a9 W9 hall hs hd hkp hS9 hval
      have HS0 := hidden_ (hS9.2 (hall 21 (by decide)))
      have ep := frame_puts [83, 84, 85, 86, 87, 88, 89, 90, 91, 92, 93, 94, 95, 96, 97, 98, 99, 100, 101, 102, 103] hs hd (fun s h => hkp s (fun i hi e => h (by
        rcases (show i = 0 ∨ i = 1 ∨ i = 2 ∨ i = 3 ∨ i = 4 ∨ i = 5 ∨ i = 6 ∨ i = 7 ∨ i = 8 ∨ i = 9 ∨ i = 10 ∨ i = 11 ∨ i = 12 ∨ i = 13 ∨ i = 14 ∨ i = 15 ∨ i = 16 ∨ i = 17 ∨ i = 18 ∨ i = 19 ∨ i = 20 ∨ i = 21 by omega) with rfl | rfl | rfl | rfl | rfl | rfl | rfl | rfl | rfl | rfl | rfl | rfl | rfl | rfl | rfl | rfl | rfl | rfl | rfl | rfl | rfl | rfl <;> first | (simp only [rbD, Option.some.injEq] at e; subst e; simp; done) | (simp [rbD] at e; done))))
      simp only [List.foldl] at ep
      clear hs hd hkp hval hS9 hall 
      generalize a9.tmps.getD 83 undef = g83 at ep
      generalize a9.tmps.getD 84 undef = g84 at ep
      generalize a9.tmps.getD 85 undef = g85 at ep
      generalize a9.tmps.getD 86 undef = g86 at ep
      generalize a9.tmps.getD 87 undef = g87 at ep
      generalize a9.tmps.getD 88 undef = g88 at ep
      generalize a9.tmps.getD 89 undef = g89 at ep
      generalize a9.tmps.getD 90 undef = g90 at ep
      generalize a9.tmps.getD 91 undef = g91 at ep
      generalize a9.tmps.getD 92 undef = g92 at ep
      generalize a9.tmps.getD 93 undef = g93 at ep
      generalize a9.tmps.getD 94 undef = g94 at ep
      generalize a9.tmps.getD 95 undef = g95 at ep
      generalize a9.tmps.getD 96 undef = g96 at ep
      generalize a9.tmps.getD 97 undef = g97 at ep
      generalize a9.tmps.getD 98 undef = g98 at ep
      generalize a9.tmps.getD 99 undef = g99 at ep
      generalize a9.tmps.getD 100 undef = g100 at ep
      generalize a9.tmps.getD 101 undef = g101 at ep
      generalize a9.tmps.getD 102 undef = g102 at ep
      generalize a9.tmps.getD 103 undef = g103 at ep
      simp only [Act.put, List.setIfInBounds_toArray, List.set_cons_succ, List.set_cons_zero] at ep
      subst ep
      have HS : Hid (Stands B w x b g t wd a S1 ⟨P1, st, n⟩ ra wd zs W9) := by
        have := HS0.out
        rw [HE.out.2, HQ.out.1, HQ.out.2] at this
        exact this
      clear c35 hxl hyl d1' d0
      obtain ⟨r9, p9, ⟨a9, c9, s9, hb9⟩, o9, ap9⟩ := HS.out
      have c3 := s9.c3
      have c4 := s9.c4
      have c5 := s9.c5
      have c29 := s9.c2
      simp only at c3 c4 c5
      obtain ⟨y9, rfl, hc⟩ := s9.page (i := Q) hidx
      simp only [HZ.out] at hc
      have q40 := hidden_ fun m' => k40.out (W9.drewN m') _ _ _ (s9.drewN m')
      have H9 := hidden_ (And.intro p9 (And.intro s9 (And.intro hb9 (And.intro o9 ap9))))
      clear p9 s9 hb9 o9 ap9
      obtain ⟨PL, ePL⟩ : ∃ PL, P1.length = PL := ⟨_, rfl⟩
      rw [ePL] at c3 hidx
      clear ePL
      go_wp2
      go_quiet (first | (go_at_call 40; exact Calls.quiet_of_same (q40.out _)))
      obtain ⟨W1, eW1⟩ : ∃ W1, W9.drewN nq = W1 := ⟨_, rfl⟩
      have H1 := H9.out.2.1.drewN nq
      rw [eW1] at H1 ⊢
      have k40' := hidden_ fun m' => k40.out (W1.drewN m') _ _ _ (H1.drewN m')
      have c41 := H1.c4
      have c51 := H1.c5
      have c21 := H1.c2
      simp only at c41 c51
      have HW1 := hidden_ eW1
      clear H1 eW1
      go_wp2
      go_quiet (first | (go_at_call 40; exact Calls.quiet_of_same (k40'.out _)))
      go_wp2
      go_loopw [13] (fun i wr => ∃ k : Nat, k ≤ wd ∧ i = .int .i64 k ∧ RefAt B wr b g (rowTo S1 Z (C : Int) zs k) r9 ∧ DocAt B wr x b t wd ⟨P1, st, n⟩ (some y9) c9 ∧ Apart B wr ra wd zs (rowTo S1 Z (C : Int) zs k) r9 ∧ OffS B TR (fun k => k = x) w wr) (fun i _ => wd - (intOf i).toNat)
      case atStart =>
        have hb : ∀ m', Below W9.heap.size W9 (W1.drewN m') := fun m' => by rw [← HW1.out]; exact ⟨rfl, rfl, rfl, Nat.le_refl _, fun _ _ => rfl⟩
        exact ⟨0, Nat.zero_le _, rfl, H9.out.1.below (hb _), H9.out.2.1.below (hb _), H9.out.2.2.2.2.below (hb _), OffS.trans H9.out.2.2.2.1 ((Off.of_below (B := B) (T := TR) (hb _)).toS (fun k => k = x)) (fun _ z => .inl z)⟩
      case round =>
        obtain ⟨k, hk, rfl, hp, hs, hap, ho⟩ := hrel
        have d0 := hs.c0
        have d2 := hs.c2
        by_cases hlt' : k < wd
        · obtain ⟨y, ey⟩ := hap.reads.some_ (by omega)
          have cv := hap.reads.cell y ey k hlt'
          obtain ⟨V, eV⟩ : ∃ V, zs.getD k 0 = V := ⟨_, rfl⟩
          rw [eV] at cv
          have k38 := refPut_call (w := wr.drew) (hp.drewN 1) (HG.out.rowTo Z C zs k) Z ((C : Int) + (k : Int)) V
          have e : putS (rowTo S1 Z C zs k) Z ((C : Int) + (k : Int)) V = rowTo S1 Z C zs (k + 1) := by rw [← eV]; rfl
          rw [e] at k38
          have hck := hcl.out k hlt'
          obtain ⟨E, eE⟩ : ∃ E, getE (rowTo S1 Z C zs k) Z ((C : Int) + (k : Int)) = E := ⟨_, rfl⟩
          rw [eE] at k38
          have HO := hidden_ (And.intro hs (And.intro hap (And.intro ho (And.intro eV (And.intro e ey)))))
          clear hp hs hap ho e eV eE
          subst ey
          go_wp2
          have hcall : ∀ w', w' = wr.drew → Calls Try.prog 38 #[.pointer (some ⟨b, 0, none⟩), .int .i64 Z, .int .i64 ((C : Int) + (k : Int)), .int .i64 V] w' fun e W' => ∃ v, e = .returned v ∧ (fun W => RefAt B W b g (rowTo S1 Z (C : Int) zs (k + 1)) r9 ∧ DocAt B W x b t wd ⟨P1, st, n⟩ (some y9) c9 ∧ Apart B W (some y) wd zs (rowTo S1 Z (C : Int) zs (k + 1)) r9 ∧ OffS B TR (fun k => k = x) w W) W' := by
            intro w' hw'
            subst hw'
            refine k38.mono ?_
            rintro e W3 ⟨rfl, hp3, ho3, hb3⟩
            have ho4 : Off B TR wr W3 := ⟨ho3.os, ho3.tape, ho3.output, ho3.size, ho3.block⟩
            have ha3 := HO.out.2.1.put (w' := W3) Z ((C : Int) + (k : Int)) V ho4.size hb3
            rw [HO.out.2.2.2.2.1] at ha3
            exact ⟨_, rfl, hp3, HO.out.1.off ho4 rfl rfl, ha3, OffS.trans HO.out.2.2.1 (ho4.toS (fun k => k = x)) (fun _ z => .inl z)⟩
          have HC := hidden_ hcall
          clear hcall k38
          refine rq_region x b wd rc k y Z (C : Int) ((C : Int) + (k : Int)) V (fun W => RefAt B W b g (rowTo S1 Z (C : Int) zs (k + 1)) r9 ∧ DocAt B W x b t wd ⟨P1, st, n⟩ (some y9) c9 ∧ Apart B W (some y) wd zs (rowTo S1 Z (C : Int) zs (k + 1)) r9 ∧ OffS B TR (fun k => k = x) w W) (by kernel_rfl) rfl ⟨_, rfl, rfl, rfl, rfl, by kernel_rfl⟩ ⟨_, rfl, rfl, rfl, rfl, by kernel_rfl⟩ ⟨_, rfl, rfl, rfl, rfl, by kernel_rfl⟩ ⟨_, rfl, rfl, rfl, rfl, by kernel_rfl⟩ ⟨_, rfl, rfl, rfl, rfl, by kernel_rfl⟩ ⟨_, rfl, rfl, rfl, rfl, by kernel_rfl⟩ ⟨_, rfl, rfl, rfl, rfl, by kernel_rfl⟩ ⟨_, rfl, rfl, rfl, rfl, by kernel_rfl⟩ ⟨_, rfl, rfl, rfl, rfl, by kernel_rfl⟩ ⟨_, rfl, rfl, rfl, rfl, by kernel_rfl⟩ ⟨_, rfl, rfl, rfl, rfl, by kernel_rfl⟩ ⟨_, rfl, rfl, rfl, rfl, by kernel_rfl⟩ ⟨_, rfl, rfl, rfl, rfl, by kernel_rfl⟩ ⟨fun _ => rfl, fun h => by cases h⟩ (fun w => run_fa51 x 0 (by decide) w) (fun l w hw hl => by rw [hw.1 hl]; exact run_load28 (w := wr.drew) d0) (fun w => run_add3 _ _ (by omega) (by omega) w) (fun w => run_ix39 y wd rc k hlt' w) (fun l w hw hl => by rw [hw.1 hl]; exact run_load2 (w := wr.drew) cv) rfl rfl rfl rfl rfl HC.out (Nat.le_of_ble_eq_true rfl) ?_
          intro l9 a9 W9 hall hs hd hkp hS9 hval
          have HT := hidden_ (hS9.2 (hall 12 (by decide)))
          have ep := frame_puts [161, 162, 163, 164, 165, 166, 167, 168, 169, 170, 171, 172, 173] hs hd (fun s h => hkp s (fun i hi e => h (by
            rcases (show i = 0 ∨ i = 1 ∨ i = 2 ∨ i = 3 ∨ i = 4 ∨ i = 5 ∨ i = 6 ∨ i = 7 ∨ i = 8 ∨ i = 9 ∨ i = 10 ∨ i = 11 ∨ i = 12 by omega) with rfl | rfl | rfl | rfl | rfl | rfl | rfl | rfl | rfl | rfl | rfl | rfl | rfl <;> first | (simp only [rqD, Option.some.injEq] at e; subst e; simp; done) | (simp [rqD] at e; done))))
          simp only [List.foldl] at ep
          clear hs hd hkp hval hS9 hall 
          generalize a9.tmps.getD 161 undef = g161 at ep
          generalize a9.tmps.getD 162 undef = g162 at ep
          generalize a9.tmps.getD 163 undef = g163 at ep
          generalize a9.tmps.getD 164 undef = g164 at ep
          generalize a9.tmps.getD 165 undef = g165 at ep
          generalize a9.tmps.getD 166 undef = g166 at ep
          generalize a9.tmps.getD 167 undef = g167 at ep
          generalize a9.tmps.getD 168 undef = g168 at ep
          generalize a9.tmps.getD 169 undef = g169 at ep
          generalize a9.tmps.getD 170 undef = g170 at ep
          generalize a9.tmps.getD 171 undef = g171 at ep
          generalize a9.tmps.getD 172 undef = g172 at ep
          generalize a9.tmps.getD 173 undef = g173 at ep
          simp only [Act.put, List.setIfInBounds_toArray, List.set_cons_succ, List.set_cons_zero] at ep
          subst ep
          go_wp2
          go_roundw
          case rel => exact ⟨k + 1, by omega, by go_num, HT.out.1, HT.out.2.1, HT.out.2.2.1, HT.out.2.2.2⟩
          case measure => simp [intOf]; omega
        · have e : k = wd := by omega
          subst e
          have c5' := hs.c5
          simp only at c5'
          have f5 := hs.top.open_ 5
          obtain ⟨hs', os'⟩ := hs.setN (n + 1)
          rw [HD.out] at hp
          have hp' := hp.of_blocks (os'.row hp.top rfl (hp.top.ne hs.top (by decide))) (os'.row hp.row rfl (hp.row.ne hs.top (by decide))) (fun i hi hu => os'.row (hp.cr i hi hu).1 rfl ((hp.cr i hi hu).1.ne hs.top (by decide)))
          have HF := hidden_ (And.intro hp' (And.intro hs' (OffS.trans ho (os'.mono (T' := TR) (S' := fun k => k = x) (fun _ _ => rfl) (fun _ z => z)) (fun _ z => .inl z))))
          clear hs hp ho hap hs' os' hp'
          obtain ⟨W4, eW⟩ : ∃ W4, wr.setCell ⟨x, 5, none⟩ (.int .i64 (n + 1 : Nat)) = W4 := ⟨_, rfl⟩
          rw [eW] at HF
          have eW' : wr.setCell ⟨x, 5, none⟩ (.int .i64 ((n : Int) + 1)) = W4 := eW
          clear eW
          go_wp2
          go_ret
          exact ⟨rfl, _, _, _, HF.out.1, HF.out.2.1, H9.out.2.2.1, HF.out.2.2⟩

end Go.Proofs.Ytgjjeggopeppfaa

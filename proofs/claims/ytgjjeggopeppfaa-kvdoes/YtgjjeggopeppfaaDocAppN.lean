/- The document appends a row where no page is needed. -/
import Derived.Test.YtgjjeggopeppfaaRows
import Derived.Test.YtgjjeggopeppfaaPages
import Derived.Test.YtgjjeggopeppfaaBasis
import Derived.Test.YtgjjeggopeppfaaLeast
import Derived.Test.YtgjjeggopeppfaaLays
import Derived.Test.YtgjjeggopeppfaaTurns
import Derived.Test.YtgjjeggopeppfaaGoods
import Derived.Test.YtgjjeggopeppfaaRefA
import Derived.Test.YtgjjeggopeppfaaRefTk
import Derived.Test.YtgjjeggopeppfaaRefLays
import Derived.Test.YtgjjeggopeppfaaRefTurns
import Derived.Test.YtgjjeggopeppfaaLies
import Derived.Test.YtgjjeggopeppfaaSeqP
import Derived.Test.YtgjjeggopeppfaaSeqRN
import Derived.Test.YtgjjeggopeppfaaReadsB
import Derived.Test.YtgjjeggopeppfaaForks
import Derived.Test.YtgjjeggopeppfaaRooms
import Derived.Test.YtgjjeggopeppfaaDocAt
import Derived.Test.YtgjjeggopeppfaaDocRd
import Derived.Test.YtgjjeggopeppfaaDocKeep
import Derived.Test.YtgjjeggopeppfaaRegPg
import Derived.Test.YtgjjeggopeppfaaRegAB
import Derived.Test.YtgjjeggopeppfaaDocAp0
import Derived.Test.YtgjjeggopeppfaaSmalls
import Derived.WalkKit
import Derived.ProofKit
import Derived.OpenShut
import Derived.Below
import Derived.WalkLawsBesides
import Derived.Deep.QuietTactic
import Derived.BigQuiet
import Derived.Deep.RegionHeld3
import Derived.Deep.RegionWith
namespace Go.Proofs.Ytgjjeggopeppfaa
open Go.ChangeShapes Go.WideShapes Go.ChangeAt Go.RowKit
set_option linter.unusedVariables false
set_option linter.unusedSimpArgs false

theorem run_ix39 (X : Addr) (n c : Nat) (k : Nat) (hk : k < n) (w : World) : (Instr.indexAt 39 (.slice (some X) n c) (.int .i64 k)).run Try.prog w = .ok (.pointer (some (X.add k))) w := by go_simp
theorem run_load2 {w : World} {p : Addr} {z : Int} (h : w.cell? p = some (.int .i64 z)) : (Instr.loadAt 2 (.pointer (some p))).run Try.prog w = .ok (.int .i64 z) w := by go_simp
set_option maxRecDepth 8000 in
set_option maxHeartbeats 4000000 in
theorem rapp_no {g m : Nat} {s : Pl} {r0 : Nat → Nat} {B : Nat} {w : World} {x b : Nat} {t : ByteArray} {wd : Nat} {q : Sq} {a : Option Addr} {c : Nat} (h : DocAt B w x b t wd q a c) (hp : RefAt B w b g s r0) (hG : Good m s) (hm : 1 ≤ m ∧ m ≤ 1000000) (hq : SqOk wd q) (hn : q.n < 1000) (ra : Option Addr) (rc : Nat) (zs : List Int) (hr : Apart B w ra wd zs s r0) {S1 : Pl} {P1 : List Int} (h0 : roomE wd t s q = 0) (hS1 : roomS wd t s q = S1) (hP1 : roomP wd t s q = P1) (hnd : needB wd s q = false) :
    Calls Try.prog 13 #[.pointer (some ⟨x, 0, none⟩), .slice ra wd rc] w fun e w' => e = .returned (.int .i64 0) ∧ DidR B w x b g t wd a (rowTo S1 (pageZ wd P1 q.st q.n) (cellN wd q.st q.n) zs wd) ⟨P1, q.st, q.n + 1⟩ w' := by
  obtain ⟨l1, l2⟩ := room_lt hq h0
  rw [hP1] at l1
  have hidx : (q.n - q.st) / (32 / wd) < P1.length := by rw [Nat.div_lt_iff_lt_mul (by have := hq.rr; omega)]; exact l1
  have hGr := hG.roomS (wd := wd) hm.1 t q
  rw [hS1] at hGr
  have hcl := hidden_ fun k hk => cell_lt hq.w0 hq.w1 q.st q.n k hk
  have hlt := cell_lt hq.w0 hq.w1 q.st q.n 0 hq.w0
  have hst := hq.st
  have w0 := hq.w0
  have w1 := hq.w1
  have r1 := rr_le wd
  have r2 := hq.rr
  have hl1 : q.P.length ≤ 1000 := Nat.le_trans hq.len hq.few
  have k40 : Hid (∀ W q' a' c', DocAt B W x b t wd q' a' c' → Calls Try.prog 40 #[.pointer (some ⟨x, 0, none⟩)] W fun e w' => e = .returned (.int .i64 ((32 / wd : Nat) : Int)) ∧ w' = W) := fun W q' a' c' hW => rrows_call hW ⟨hq.w0, hq.w1⟩
  have k34 := rneed_call h hp hG hq
  have c2 := h.c2
  have c0 := h.c0
  have c1 := h.c1
  have H := hidden_ h
  have HP := hidden_ hp
  have HA := hidden_ hr
  have HG := hidden_ hGr
  have eS : roomS wd t s q = s := by unfold roomS; rw [if_neg (fun z => by rw [hnd] at z; cases z.1)]
  have eP : roomP wd t s q = q.P := by unfold roomP; rw [if_neg (fun z => by rw [hnd] at z; cases z.1)]
  rw [eS] at hS1
  rw [eP] at hP1
  have HE := hidden_ (And.intro hS1 hP1)
  unfold needV at k34
  rw [hnd] at k34
  clear hS1 hP1 eS eP hnd h0
  unfold pageZ cellN
  unfold cellN at hlt hcl
  obtain ⟨r, er⟩ : ∃ r : Nat, 32 / wd = r := ⟨_, rfl⟩
  simp only [er] at k40 r1 r2 hlt hidx hcl ⊢
  obtain ⟨n, en⟩ : ∃ n, q.n = n := ⟨_, rfl⟩
  obtain ⟨st, es⟩ : ∃ st, q.st = st := ⟨_, rfl⟩
  simp only [en, es] at hn hst hidx hlt hcl ⊢
  have HQ := hidden_ (And.intro en es)
  obtain ⟨d, ed⟩ : ∃ d : Nat, n - st = d := ⟨_, rfl⟩
  have e0 : (n : Int) - (st : Int) = (d : Int) := by omega
  simp only [ed] at hidx hlt hcl ⊢
  have e1 := tdivN d r
  have e2 := tmodN d r
  have hQ : d / r ≤ 1000 := Nat.le_trans (Nat.div_le_self d r) (by omega)
  have hM : d % r ≤ 32 := by have := Nat.mod_lt d (show 0 < r by omega); omega
  obtain ⟨Q, eQ⟩ : ∃ Q, d / r = Q := ⟨_, rfl⟩
  obtain ⟨M, eM⟩ : ∃ M, d % r = M := ⟨_, rfl⟩
  rw [eQ] at e1 hQ hidx
  rw [eM] at e2 hlt hM
  simp only [eQ, eM] at hcl ⊢
  have x1 := wrap_nat (n := Q) (by omega)
  have x2 := wrap_nat (n := M) (by omega)
  obtain ⟨C, eC⟩ : ∃ C, M * wd = C := ⟨_, rfl⟩
  have e3 : (M : Int) * (wd : Int) = (C : Int) := by rw [← Int.natCast_mul, eC]
  rw [eC] at hlt
  simp only [eC] at hcl ⊢
  have x3 := wrap_nat (n := C) (by omega)
  have z' : ¬ ((r : Int) = 0) := by omega
  have z : ((r : Int) == 0) = false := by simp; omega
  obtain ⟨Z, eZ⟩ : ∃ Z, P1.getD Q 0 = Z := ⟨_, rfl⟩
  rw [eZ]
  have HZ := hidden_ eZ
  obtain ⟨D, eD⟩ : ∃ D, rowTo S1 Z (C : Int) zs wd = D := ⟨_, rfl⟩
  rw [eD]
  have HD := hidden_ eD
  clear h hp hG hq hr l1 l2 hGr er en es ed eQ eM eC eZ eD
  go_enter Try.func13, Try.ntmps13
  go_wp2_with (first
    | (go_at_call 34; refine k34.mono ?_; rintro e W9 ⟨rfl, m1, h1⟩; have HW := hidden_ h1; clear h1 k34))
  have HS : Hid (Stands B w x b g t wd a S1 ⟨P1, st, n⟩ ra wd zs W9) := by
    rw [HW.out, ← HE.out.1, ← HE.out.2, ← HQ.out.1, ← HQ.out.2]
    exact Stands.drewN ⟨r0, HP.out, ⟨a, c, H.out, fun k hk => .inl hk⟩, OffS.refl _ _ _ _, HA.out⟩ m1
  obtain ⟨r9, p9, ⟨a9, c9, s9, hb9⟩, o9, ap9⟩ := HS.out
  have c3 := s9.c3
  have c4 := s9.c4
  have c5 := s9.c5
  have c29 := s9.c2
  simp only at c3 c4 c5
  obtain ⟨y9, rfl, hc⟩ := s9.page (i := Q) hidx
  simp only [HZ.out] at hc
  have q40 := hidden_ fun m' => k40.out (W9.drewN m') _ _ _ (s9.drewN m')
  have H9 := hidden_ (And.intro p9 (And.intro s9 (And.intro hb9 (And.intro o9 ap9))))
  clear p9 s9 hb9 o9 ap9
  obtain ⟨PL, ePL⟩ : ∃ PL, P1.length = PL := ⟨_, rfl⟩
  rw [ePL] at c3 hidx
  clear ePL
  go_wp2
  go_quiet (first | (go_at_call 40; exact Calls.quiet_of_same (q40.out _)))
  obtain ⟨W1, eW1⟩ : ∃ W1, W9.drewN nq = W1 := ⟨_, rfl⟩
  have H1 := H9.out.2.1.drewN nq
  rw [eW1] at H1 ⊢
  have k40' := hidden_ fun m' => k40.out (W1.drewN m') _ _ _ (H1.drewN m')
  have c41 := H1.c4
  have c51 := H1.c5
  have c21 := H1.c2
  simp only at c41 c51
  have HW1 := hidden_ eW1
  clear H1 eW1
  go_wp2
  go_quiet (first | (go_at_call 40; exact Calls.quiet_of_same (k40'.out _)))
  go_wp2
  go_loopw [13] (fun i wr => ∃ k : Nat, k ≤ wd ∧ i = .int .i64 k ∧ RefAt B wr b g (rowTo S1 Z (C : Int) zs k) r9 ∧ DocAt B wr x b t wd ⟨P1, st, n⟩ (some y9) c9 ∧ Apart B wr ra wd zs (rowTo S1 Z (C : Int) zs k) r9 ∧ OffS B TR (fun k => k = x) w wr) (fun i _ => wd - (intOf i).toNat)
  case atStart =>
    have hb : ∀ m', Below W9.heap.size W9 (W1.drewN m') := fun m' => by rw [← HW1.out]; exact ⟨rfl, rfl, rfl, Nat.le_refl _, fun _ _ => rfl⟩
    exact ⟨0, Nat.zero_le _, rfl, H9.out.1.below (hb _), H9.out.2.1.below (hb _), H9.out.2.2.2.2.below (hb _), OffS.trans H9.out.2.2.2.1 ((Off.of_below (B := B) (T := TR) (hb _)).toS (fun k => k = x)) (fun _ z => .inl z)⟩
  case round =>
    obtain ⟨k, hk, rfl, hp, hs, hap, ho⟩ := hrel
    have d0 := hs.c0
    have d2 := hs.c2
    by_cases hlt' : k < wd
    · obtain ⟨y, ey⟩ := hap.reads.some_ (by omega)
      have cv := hap.reads.cell y ey k hlt'
      obtain ⟨V, eV⟩ : ∃ V, zs.getD k 0 = V := ⟨_, rfl⟩
      rw [eV] at cv
      have k38 := refPut_call (w := wr.drew) (hp.drewN 1) (HG.out.rowTo Z C zs k) Z ((C : Int) + (k : Int)) V
      have e : putS (rowTo S1 Z C zs k) Z ((C : Int) + (k : Int)) V = rowTo S1 Z C zs (k + 1) := by rw [← eV]; rfl
      rw [e] at k38
      have hck := hcl.out k hlt'
      obtain ⟨E, eE⟩ : ∃ E, getE (rowTo S1 Z C zs k) Z ((C : Int) + (k : Int)) = E := ⟨_, rfl⟩
      rw [eE] at k38
      have HO := hidden_ (And.intro hs (And.intro hap (And.intro ho (And.intro eV (And.intro e ey)))))
      clear hp hs hap ho e eV eE
      subst ey
      go_wp2
      have hcall : ∀ w', w' = wr.drew → Calls Try.prog 38 #[.pointer (some ⟨b, 0, none⟩), .int .i64 Z, .int .i64 ((C : Int) + (k : Int)), .int .i64 V] w' fun e W' => ∃ v, e = .returned v ∧ (fun W => RefAt B W b g (rowTo S1 Z (C : Int) zs (k + 1)) r9 ∧ DocAt B W x b t wd ⟨P1, st, n⟩ (some y9) c9 ∧ Apart B W (some y) wd zs (rowTo S1 Z (C : Int) zs (k + 1)) r9 ∧ OffS B TR (fun k => k = x) w W) W' := by
        intro w' hw'
        subst hw'
        refine k38.mono ?_
        rintro e W3 ⟨rfl, hp3, ho3, hb3⟩
        have ho4 : Off B TR wr W3 := ⟨ho3.os, ho3.tape, ho3.output, ho3.size, ho3.block⟩
        have ha3 := HO.out.2.1.put (w' := W3) Z ((C : Int) + (k : Int)) V ho4.size hb3
        rw [HO.out.2.2.2.2.1] at ha3
        exact ⟨_, rfl, hp3, HO.out.1.off ho4 rfl rfl, ha3, OffS.trans HO.out.2.2.1 (ho4.toS (fun k => k = x)) (fun _ z => .inl z)⟩
      have HC := hidden_ hcall
      clear hcall k38
      refine rq_region x b wd rc k y Z (C : Int) ((C : Int) + (k : Int)) V (fun W => RefAt B W b g (rowTo S1 Z (C : Int) zs (k + 1)) r9 ∧ DocAt B W x b t wd ⟨P1, st, n⟩ (some y9) c9 ∧ Apart B W (some y) wd zs (rowTo S1 Z (C : Int) zs (k + 1)) r9 ∧ OffS B TR (fun k => k = x) w W) (by kernel_rfl) rfl ⟨_, rfl, rfl, rfl, rfl, by kernel_rfl⟩ ⟨_, rfl, rfl, rfl, rfl, by kernel_rfl⟩ ⟨_, rfl, rfl, rfl, rfl, by kernel_rfl⟩ ⟨_, rfl, rfl, rfl, rfl, by kernel_rfl⟩ ⟨_, rfl, rfl, rfl, rfl, by kernel_rfl⟩ ⟨_, rfl, rfl, rfl, rfl, by kernel_rfl⟩ ⟨_, rfl, rfl, rfl, rfl, by kernel_rfl⟩ ⟨_, rfl, rfl, rfl, rfl, by kernel_rfl⟩ ⟨_, rfl, rfl, rfl, rfl, by kernel_rfl⟩ ⟨_, rfl, rfl, rfl, rfl, by kernel_rfl⟩ ⟨_, rfl, rfl, rfl, rfl, by kernel_rfl⟩ ⟨_, rfl, rfl, rfl, rfl, by kernel_rfl⟩ ⟨_, rfl, rfl, rfl, rfl, by kernel_rfl⟩ ⟨fun _ => rfl, fun h => by cases h⟩ (fun w => run_fa51 x 0 (by decide) w) (fun l w hw hl => by rw [hw.1 hl]; exact run_load28 (w := wr.drew) d0) (fun w => run_add3 _ _ (by omega) (by omega) w) (fun w => run_ix39 y wd rc k hlt' w) (fun l w hw hl => by rw [hw.1 hl]; exact run_load2 (w := wr.drew) cv) rfl rfl rfl rfl rfl HC.out (Nat.le_of_ble_eq_true rfl) ?_
      intro l9 a9 W9 hall hs hd hkp hS9 hval
      have HT := hidden_ (hS9.2 (hall 12 (by decide)))
      have ep := frame_puts [161, 162, 163, 164, 165, 166, 167, 168, 169, 170, 171, 172, 173] hs hd (fun s h => hkp s (fun i hi e => h (by
        rcases (show i = 0 ∨ i = 1 ∨ i = 2 ∨ i = 3 ∨ i = 4 ∨ i = 5 ∨ i = 6 ∨ i = 7 ∨ i = 8 ∨ i = 9 ∨ i = 10 ∨ i = 11 ∨ i = 12 by omega) with rfl | rfl | rfl | rfl | rfl | rfl | rfl | rfl | rfl | rfl | rfl | rfl | rfl <;> first | (simp only [rqD, Option.some.injEq] at e; subst e; simp; done) | (simp [rqD] at e; done))))
      simp only [List.foldl] at ep
      clear hs hd hkp hval hS9 hall 
      generalize a9.tmps.getD 161 undef = g161 at ep
      generalize a9.tmps.getD 162 undef = g162 at ep
      generalize a9.tmps.getD 163 undef = g163 at ep
      generalize a9.tmps.getD 164 undef = g164 at ep
      generalize a9.tmps.getD 165 undef = g165 at ep
      generalize a9.tmps.getD 166 undef = g166 at ep
      generalize a9.tmps.getD 167 undef = g167 at ep
      generalize a9.tmps.getD 168 undef = g168 at ep
      generalize a9.tmps.getD 169 undef = g169 at ep
      generalize a9.tmps.getD 170 undef = g170 at ep
      generalize a9.tmps.getD 171 undef = g171 at ep
      generalize a9.tmps.getD 172 undef = g172 at ep
      generalize a9.tmps.getD 173 undef = g173 at ep
      simp only [Act.put, List.setIfInBounds_toArray, List.set_cons_succ, List.set_cons_zero] at ep
      subst ep
      go_wp2
      go_roundw
      case rel => exact ⟨k + 1, by omega, by go_num, HT.out.1, HT.out.2.1, HT.out.2.2.1, HT.out.2.2.2⟩
      case measure => simp [intOf]; omega
    · have e : k = wd := by omega
      subst e
      have c5' := hs.c5
      simp only at c5'
      have f5 := hs.top.open_ 5
      obtain ⟨hs', os'⟩ := hs.setN (n + 1)
      rw [HD.out] at hp
      have hp' := hp.of_blocks (os'.row hp.top rfl (hp.top.ne hs.top (by decide))) (os'.row hp.row rfl (hp.row.ne hs.top (by decide))) (fun i hi hu => os'.row (hp.cr i hi hu).1 rfl ((hp.cr i hi hu).1.ne hs.top (by decide)))
      have HF := hidden_ (And.intro hp' (And.intro hs' (OffS.trans ho (os'.mono (T' := TR) (S' := fun k => k = x) (fun _ _ => rfl) (fun _ z => z)) (fun _ z => .inl z))))
      clear hs hp ho hap hs' os' hp'
      obtain ⟨W4, eW⟩ : ∃ W4, wr.setCell ⟨x, 5, none⟩ (.int .i64 (n + 1 : Nat)) = W4 := ⟨_, rfl⟩
      rw [eW] at HF
      have eW' : wr.setCell ⟨x, 5, none⟩ (.int .i64 ((n : Int) + 1)) = W4 := eW
      clear eW
      go_wp2
      go_ret
      exact ⟨rfl, _, _, _, HF.out.1, HF.out.2.1, H9.out.2.2.1, HF.out.2.2⟩

end Go.Proofs.Ytgjjeggopeppfaa

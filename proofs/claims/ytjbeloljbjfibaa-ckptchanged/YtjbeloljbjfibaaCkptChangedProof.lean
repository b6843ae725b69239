/- CkptChanged: a model's bytes, one of them changed or the rest cut off, are no model's. -/
import Derived.Test.YtjbeloljbjfibaaRows
import Derived.Test.YtjbeloljbjfibaaLayer8
import Derived.Test.YtjbeloljbjfibaaConf
import Derived.Test.YtjbeloljbjfibaaCfgRef
import Derived.Test.YtjbeloljbjfibaaBlank
import Derived.Test.YtjbeloljbjfibaaSize
import Derived.Test.YtjbeloljbjfibaaSizes
import Derived.Test.YtjbeloljbjfibaaOpenCfg
import Derived.Test.YtjbeloljbjfibaaSteps
import Derived.Test.YtjbeloljbjfibaaClo54
import Derived.Test.YtjbeloljbjfibaaFill
import Derived.Test.YtjbeloljbjfibaaMods
import Derived.Test.YtjbeloljbjfibaaFills
import Derived.Test.YtjbeloljbjfibaaShape
import Derived.Test.YtjbeloljbjfibaaShapes
import Derived.Test.YtjbeloljbjfibaaCheck
import Derived.Test.YtjbeloljbjfibaaChecks
import Derived.Test.YtjbeloljbjfibaaDims
import Derived.Test.YtjbeloljbjfibaaFlat
import Derived.Test.YtjbeloljbjfibaaNumbers
import Derived.Test.YtjbeloljbjfibaaPrefix
import Derived.Test.YtjbeloljbjfibaaBody
import Derived.Test.YtjbeloljbjfibaaDecode
import Derived.Test.YtjbeloljbjfibaaTrips
import Derived.Test.YtjbeloljbjfibaaEqWorks
import Derived.Test.YtjbeloljbjfibaaCuts
import Derived.Test.YtjbeloljbjfibaaSeeds
import Derived.WalkKit
import Derived.ProofKit
import Derived.OpenShut
import Derived.ChangeOld
import Derived.Below
import Derived.WalkLawsBesides
import Derived.ChangeMaps5
import Derived.Deep.RegionHeld3
import Derived.Deep.RegionWith
import Derived.Deep.QuietTactic
import Derived.BigQuiet
import Derived.Deep.OwnRows
namespace Go.Proofs.Ytjbeloljbjfibaa.ckptChanged
open Go.ChangeShapes Go.WideShapes Go.ChangeAt Go.RowKit
set_option linter.unusedVariables false
set_option linter.unusedSimpArgs false

theorem own : ownKnob Try.prog.godebug = none := by kernel_rfl
theorem laidOut : laidOutB Try.prog = true := by kernel_rfl



set_option maxHeartbeats 8000000 in
set_option maxRecDepth 20000 in
theorem walk (cd0 ch0 cl0 cv0 cu0 cx0 ct0 cn0 : Int) (a1 : Int) (a2 : Int) (a3 : Int) (w : World)  (w1 : (Lit.int .u64 a1).wf = true) (w2 : (Lit.int .i64 a2).wf = true) (w3 : (Lit.int .u8 a3).wf = true) :
    Calls Try.prog 8 #[.agg #[.int .i64 cd0, .int .i64 ch0, .int .i64 cl0, .int .i64 cv0, .int .i64 cu0, .int .i64 cx0, .int .i64 ct0, .int .i64 cn0], .int .u64 a1, .int .i64 a2, .int .u8 a3] w fun e w' => e = .returned (.bool true) ∧ Below w.heap.size w w' := by
  have u8 : 0 ≤ a3 ∧ a3 ≤ 255 := by simpa [Lit.wf, IntKind.min, IntKind.max, IntKind.signed, IntKind.bits] using w3
  have k26 := works_call
  have k11 := size_call cd0 ch0 cl0 cv0 cu0 cx0 ct0 cn0
  have hb0 := below_new (Below.refl w.heap.size w) (.cells #[.int .i64 cd0, .int .i64 ch0, .int .i64 cl0, .int .i64 cv0, .int .i64 cu0, .int .i64 cx0, .int .i64 ct0, .int .i64 cn0] 23)
  have q0 := hidden_ (Blk.new 23 w #[.int .i64 cd0, .int .i64 ch0, .int .i64 cl0, .int .i64 cv0, .int .i64 cu0, .int .i64 cx0, .int .i64 ct0, .int .i64 cn0])
  cases ok : okB cd0 ch0 cl0 cv0 cu0 cx0 ct0 cn0 with
  | false =>
    have ez : sizeB cd0 ch0 cl0 cv0 cu0 cx0 ct0 cn0 = 0 := by unfold sizeB; rw [ok]; rfl
    simp only [ez] at k11
    have k24 := shape_bad cd0 ch0 cl0 cv0 cu0 cx0 ct0 cn0 ok
    clear ok ez
    go_enter Try.func8, Try.ntmps8
    go_wp2_with (first
      | (go_at_call 26; refine (k26 _).mono ?_; rintro e W1 ⟨rfl, h1⟩; have q1 := q0.out.kept h1; replace hb0 := below_then hb0 h1; clear h1; obtain ⟨c0, c1, c2, c3, c4, c5, c6, c7⟩ := q1.cfg)
      | (go_at_call 11; refine (k11 _).mono ?_; rintro e W2 ⟨rfl, h2⟩; replace q1 := q1.kept h2; replace hb0 := below_then hb0 h2; clear h2 c0 c1 c2 c3 c4 c5 c6 c7; obtain ⟨c0, c1, c2, c3, c4, c5, c6, c7⟩ := q1.cfg))
    refine wp_loop_rounds 1 ?_
    rw [rounds_succ]
    go_wp2_with (first
      | (go_at_call 24; refine (k24 _ _ _ _).mono ?_; rintro e W3 ⟨rfl, h3⟩; replace hb0 := below_then hb0 h3; clear h3))
    go_ret
    exact ⟨rfl, below_new hb0 _⟩
  | true =>
    have dm := dims_of ok
    have few := size_few ok
    have sz := dm.sz
    have sz0 := dm.sz0
    have es : sizeB cd0 ch0 cl0 cv0 cu0 cx0 ct0 cn0 = szZ cd0 cl0 cv0 cu0 cx0 := by unfold sizeB; rw [ok]; rfl
    obtain ⟨n, en⟩ : ∃ n, offs (cntOf cd0 cl0 cv0 cu0 cx0) (allT cl0 cx0) = n := ⟨_, rfl⟩
    have ez : sizeB cd0 ch0 cl0 cv0 cu0 cx0 ct0 cn0 = (n : Int) := by omega
    simp only [ez] at k11
    have hlen := (drawnL_length a1 n).trans en.symm
    have k24 := fun W xa c (rd : Reads .i8 W (some xa) n (drawnL a1 n)) hc => shape_good cd0 ch0 cl0 cv0 cu0 cx0 ct0 cn0 ok xa n c (drawnL a1 n) W rd hc (by omega)
    have k14 : ∀ (E L N O : SL) (Y U D : Nat → Nat → SL) (W : World), ModAt W E L N O Y U D (shapeV cd0 cl0 cv0 cu0 cx0 (drawnL a1 n)) → Calls Try.prog 14 #[.agg #[.int .i64 cd0, .int .i64 ch0, .int .i64 cl0, .int .i64 cv0, .int .i64 cu0, .int .i64 cx0, .int .i64 ct0, .int .i64 cn0, .slice E.a E.n E.c, .slice L.a L.n L.c, .slice N.a N.n N.c, .slice O.a O.n O.c]] W fun e w' => e = .returned (.tuple #[.string (encS cd0 ch0 cl0 cv0 cu0 cx0 ct0 cn0 (drawnL a1 n)), .int .i64 0]) ∧ Below W.heap.size W w' := fun E L N O Y U D W hM => by
      have := encode_call cd0 ch0 cl0 cv0 cu0 cx0 ct0 cn0 E L N O Y U D _ W hM
      have c := shape_checked ok (drawnL a1 n) hlen
      unfold encV at this
      rw [c, if_pos rfl, shape_flat (drawnL a1 n) hlen] at this
      exact this
    have cut := cut_no ok (drawnL a1 n) hlen
    have esz := enc_size cd0 ch0 cl0 cv0 cu0 cx0 ct0 cn0 (drawnL a1 n)
    rw [drawnL_length, show min n 65535 = n by omega] at esz
    have ch := fun (p : Nat) U => openE_changed (s := headS cd0 ch0 cl0 cv0 cu0 cx0 ct0 cn0 ++ wtsS (drawnL a1 n)) (u := U) (p := p)
    have hh : (headS cd0 ch0 cl0 cv0 cu0 cx0 ct0 cn0 ++ wtsS (drawnL a1 n)).size = n + 20 := by rw [ByteArray.size_append, headS_size, wtsS_size, drawnL_length]; omega
    obtain ⟨Q, eQ⟩ : ∃ Q, n + 20 = Q := ⟨_, rfl⟩
    rw [eQ] at hh
    simp only [hh] at ch
    obtain ⟨S, eS⟩ : ∃ S, encS cd0 ch0 cl0 cv0 cu0 cx0 ct0 cn0 (drawnL a1 n) = S := ⟨_, rfl⟩
    have eS' : sealS (headS cd0 ch0 cl0 cv0 cu0 cx0 ct0 cn0 ++ wtsS (drawnL a1 n)) = S := eS
    simp only [eS'] at ch
    simp only [eS] at k14 cut esz
    clear eS eS' hh
    obtain ⟨p, eK, hp⟩ : ∃ p : Nat, (IntKind.u64.wrap a2).tmod ((Q : Int) + 2) = (p : Int) ∧ p < Q + 2 := by
      have u0 : 0 ≤ IntKind.u64.wrap a2 := by
        unfold IntKind.wrap
        simp [IntKind.signed, IntKind.bits]
        omega
      rw [Int.tmod_eq_emod_of_nonneg u0]
      have b1 := Int.emod_nonneg (IntKind.u64.wrap a2) (b := (Q : Int) + 2) (by omega)
      have b2 := Int.emod_lt_of_pos (IntKind.u64.wrap a2) (b := (Q : Int) + 2) (by omega)
      exact ⟨((IntKind.u64.wrap a2) % ((Q : Int) + 2)).toNat, by omega, by omega⟩
    have hT : S.size = Q + 2 := by omega
    have kb := fun W => bytes_key S (Q + 2) p hT (by omega) hp a3 w3 W
    have kA := decode_no (S.extract 0 p) (by rw [ByteArray.size_extract]; omega) (cut p (by omega))
    obtain ⟨A, eA⟩ : ∃ A, S.extract 0 p = A := ⟨_, rfl⟩
    rw [eA] at kA
    have sm := setT_same S p a3 (by omega) u8.1 u8.2
    have lt := byteZ_lt S p
    have ch' := ch p (setT S p a3) (by rw [setT_size, hT]) (by omega) (setT_other _ _ _)
    have kU := fun h => decode_no (setT S p a3) (by rw [setT_size, hT]; omega) h
    have kD := dec_sealed (s := setT S p a3)
    obtain ⟨U, eU⟩ : ∃ U, setT S p a3 = U := ⟨_, rfl⟩
    rw [eU] at sm ch' kD
    simp only [eU] at kb kU
    obtain ⟨X, eX⟩ : ∃ X, byteZ S p = X := ⟨_, rfl⟩
    rw [eX] at ch' lt
    simp only [eX] at kb
    have ne : S.toList.isEmpty = false := text_some (by omega)
    obtain ⟨i0, hi, hz0, hz1, hz2⟩ := info_parts info46
    obtain ⟨u0, u1⟩ := u8
    have hp' : (p : Int) < (Q : Int) + 2 := by omega
    have hnn : (n : Int) ≤ 1896 := by omega
    have hn1 : n ≤ 1896 := by omega
    have hn0 : 0 < n := by omega
    have hQ : Q ≤ 2000 := by omega
    have hQ' : (Q : Int) ≤ 2000 := by omega
    clear eQ
    have HH := hidden_ (And.intro hp (And.intro ch' (And.intro kD sm)))
    clear few sz sz0 es ez hlen cut esz ch eU eX ch' kD sm hp dm en ok
    go_enter Try.func8, Try.ntmps8
    go_wp2_with (first
      | (go_at_call 26; refine (k26 _).mono ?_; rintro e W1 ⟨rfl, h1⟩; have q1 := q0.out.kept h1; replace hb0 := below_then hb0 h1; clear h1; obtain ⟨c0, c1, c2, c3, c4, c5, c6, c7⟩ := q1.cfg)
      | (go_at_call 11; refine (k11 _).mono ?_; rintro e W2 ⟨rfl, h2⟩; replace q1 := q1.kept h2; replace hb0 := below_then hb0 h2; clear h2 c0 c1 c2 c3 c4 c5 c6 c7))
    have s2 := hb0.size
    clear k26 k11
    go_loopw [1, 10, 11] (fun s v i wr => ∃ k : Nat, k ≤ n ∧ i = .int .i64 k ∧ s = .int .u64 (sd a1 k) ∧ Below W2.heap.size W2 wr ∧ wr.ownsRow W2.heap.size 46 1 v k (gath (drawn a1) .i8 k)) (fun _ _ i _ => n - (intOf i).toNat)
    case atStart => exact ⟨0, Nat.zero_le _, rfl, rfl, Below.refl _ _, World.ownsRow_nil _ _ _ _⟩
    case round =>
      obtain ⟨k, hk, rfl, rfl, hbr, ho⟩ := hrel
      by_cases hlt : k < n
      · have hsz := hbr.size
        obtain ⟨s, eSd⟩ : ∃ s, sd a1 k = s := ⟨_, rfl⟩
        obtain ⟨M1, e1⟩ : ∃ z, IntKind.u64.wrap (s * 6364136223846793005) = z := ⟨_, rfl⟩
        obtain ⟨M2, e2⟩ : ∃ z, IntKind.u64.wrap (M1 + 1442695040888963407) = z := ⟨_, rfl⟩
        obtain ⟨M3, e3⟩ : ∃ z, M2 / 72057594037927936 = z := ⟨_, rfl⟩
        have Es : Hid (sd a1 (k + 1) = M2) := by show lcg (sd a1 k) = M2; unfold lcg; rw [eSd, e1, e2]
        have Ez : Hid (i8 M3 = drawn a1 k) := by unfold drawn; rw [Es.out, e3]; exact rfl
        have hw8 := wrap_i8 M3
        rw [eSd]
        clear eSd
        go_wp2_with (first
          | (at_builtin; refine wpList_append_own _ rfl (.tmp 38) (.tmp 42) 26 rfl W2.heap.size 46 i0 (.int .i8 0) 1 1 Try.underlying26 hi hz0 hz1 hz2 rfl (by decide) _ _ _ rfl (ho.alloc _) ⟨_, 0, none⟩ 1 1 [.int .i8 (i8 M3)] rfl rfl (one_new _ _ _) (one_oneCell _ _) (by unfold maxLen; omega) (by omega) (by simp; omega) ?_; intro v' w2 ho' hg _))
        go_roundw
        case rel => exact ⟨k + 1, by omega, by go_num, by rw [Es.out], append_step hsz Ez.out hbr ho ho' hg⟩
        case measure => simp [intOf]; omega
      · have e : n = k := by omega
        subst e
        obtain ⟨a, c, rfl, hre⟩ := own_reads (k := .i8) (zs := drawnL a1 n) ho (drawnL_length _ _) (drawnL_wf _ _) (fun j hj => by rw [gath_at _ _ _ _ hj, drawnL_at _ _ _ hj])
        obtain ⟨hcap, _⟩ := own_cap ho
        obtain ⟨xa, rfl⟩ := hre.some_ hn0
        replace q1 := q1.kept hbr
        replace hb0 := below_then hb0 hbr
        obtain ⟨c0, c1, c2, c3, c4, c5, c6, c7⟩ := q1.cfg
        have k24' := k24 wr xa c hre hcap
        clear ho hbr k24 hre hcap s2 hz0 hz1 hz2 hi
        by_cases g1 : (X : Int) = a3
        · have g1' : ((X : Int) != a3) = false := by simp [g1]
          have g1'' : ((X : Int) == a3) = true := by simp [g1]
          clear kU
          go_wp2_with (first
            | (go_at_call 24; refine k24'.mono ?_; rintro e W3 ⟨E, L, N, O, Y, U', D', rfl, hM, h3⟩; have hM3 := (hM.below (below_new (Below.refl _ _) (.cells #[.int .i64 cd0, .int .i64 ch0, .int .i64 cl0, .int .i64 cv0, .int .i64 cu0, .int .i64 cx0, .int .i64 ct0, .int .i64 cn0, .slice E.a E.n E.c, .slice L.a L.n L.c, .slice N.a N.n N.c, .slice O.a O.n O.c] 29))).at_; replace hb0 := below_new (below_then hb0 h3) (.cells #[.int .i64 cd0, .int .i64 ch0, .int .i64 cl0, .int .i64 cv0, .int .i64 cu0, .int .i64 cx0, .int .i64 ct0, .int .i64 cn0, .slice E.a E.n E.c, .slice L.a L.n L.c, .slice N.a N.n N.c, .slice O.a O.n O.c] 29); have q3 := Blk.new 29 W3 #[.int .i64 cd0, .int .i64 ch0, .int .i64 cl0, .int .i64 cv0, .int .i64 cu0, .int .i64 cx0, .int .i64 ct0, .int .i64 cn0, .slice E.a E.n E.c, .slice L.a L.n L.c, .slice N.a N.n N.c, .slice O.a O.n O.c]; clear h3 hM k24' c0 c1 c2 c3 c4 c5 c6 c7 q1; obtain ⟨b0, b1, b2, b3, b4, b5, b6, b7, b8, b9, b10, b11⟩ := q3.c12; clear q3)
            | (go_at_call 14; refine (k14 E L N O Y U' D' _ hM3).mono ?_; rintro e W4 ⟨rfl, h4⟩; replace hb0 := below_then hb0 h4; clear h4 b0 b1 b2 b3 b4 b5 b6 b7 b8 b9 b10 b11 hM3 k14; obtain ⟨cb, W5, ec, cx, fz, hbs, cv, hbn⟩ := kb W4; have hb1 := below_then hb0 hbs; have hb2 := below_then hb0 hbn; clear hbs hbn hb0 kb)
            | (go_at_call 22; refine (kA _).mono ?_; rintro e W6 ⟨E2, L2, N2, O2, rfl, h6⟩; replace hb2 := below_then hb2 h6; clear h6))
          all_goals go_ret
          all_goals exact ⟨rfl, below_new hb2 _⟩
        · have g1' : ((X : Int) == a3) = false := by simpa using g1
          have g1'' : ((X : Int) != a3) = true := by simpa using g1
          by_cases g2 : p < Q
          · have g2' : decide ((p : Int) < (Q : Int)) = true := by simp; omega
            have g2'' : ¬ Q ≤ p := by omega
            have g2'3 : decide (Q ≤ p) = false := by simp; omega
            by_cases g3 : (X : Int) % 255 = a3 % 255
            · have g3' : ((X : Int) % 255 == a3 % 255) = true := by simpa using g3
              have g3'' : ((X : Int) % 255 != a3 % 255) = false := by simp [g3]
              clear kU
              go_wp2_with (first
                | (go_at_call 24; refine k24'.mono ?_; rintro e W3 ⟨E, L, N, O, Y, U', D', rfl, hM, h3⟩; have hM3 := (hM.below (below_new (Below.refl _ _) (.cells #[.int .i64 cd0, .int .i64 ch0, .int .i64 cl0, .int .i64 cv0, .int .i64 cu0, .int .i64 cx0, .int .i64 ct0, .int .i64 cn0, .slice E.a E.n E.c, .slice L.a L.n L.c, .slice N.a N.n N.c, .slice O.a O.n O.c] 29))).at_; replace hb0 := below_new (below_then hb0 h3) (.cells #[.int .i64 cd0, .int .i64 ch0, .int .i64 cl0, .int .i64 cv0, .int .i64 cu0, .int .i64 cx0, .int .i64 ct0, .int .i64 cn0, .slice E.a E.n E.c, .slice L.a L.n L.c, .slice N.a N.n N.c, .slice O.a O.n O.c] 29); have q3 := Blk.new 29 W3 #[.int .i64 cd0, .int .i64 ch0, .int .i64 cl0, .int .i64 cv0, .int .i64 cu0, .int .i64 cx0, .int .i64 ct0, .int .i64 cn0, .slice E.a E.n E.c, .slice L.a L.n L.c, .slice N.a N.n N.c, .slice O.a O.n O.c]; clear h3 hM k24' c0 c1 c2 c3 c4 c5 c6 c7 q1; obtain ⟨b0, b1, b2, b3, b4, b5, b6, b7, b8, b9, b10, b11⟩ := q3.c12; clear q3)
                | (go_at_call 14; refine (k14 E L N O Y U' D' _ hM3).mono ?_; rintro e W4 ⟨rfl, h4⟩; replace hb0 := below_then hb0 h4; clear h4 b0 b1 b2 b3 b4 b5 b6 b7 b8 b9 b10 b11 hM3 k14; obtain ⟨cb, W5, ec, cx, fz, hbs, cv, hbn⟩ := kb W4; have hb1 := below_then hb0 hbs; have hb2 := below_then hb0 hbn; clear hbs hbn hb0 kb)
                | (go_at_call 22; refine (kA _).mono ?_; rintro e W6 ⟨E2, L2, N2, O2, rfl, h6⟩; replace hb2 := below_then hb2 h6; clear h6))
              all_goals go_ret
              all_goals exact ⟨rfl, below_new hb2 _⟩
            · have g3' : ((X : Int) % 255 == a3 % 255) = false := by simpa using g3
              have g3'' : ((X : Int) % 255 != a3 % 255) = true := by simpa using g3
              obtain ⟨hp, ch', kD, sm⟩ := HH.out
              replace kU := kU (kD (by rw [ch' (by omega) (fun _ => by omega)]; decide))
              clear hp ch' kD sm
              go_wp2_with (first
                | (go_at_call 24; refine k24'.mono ?_; rintro e W3 ⟨E, L, N, O, Y, U', D', rfl, hM, h3⟩; have hM3 := (hM.below (below_new (Below.refl _ _) (.cells #[.int .i64 cd0, .int .i64 ch0, .int .i64 cl0, .int .i64 cv0, .int .i64 cu0, .int .i64 cx0, .int .i64 ct0, .int .i64 cn0, .slice E.a E.n E.c, .slice L.a L.n L.c, .slice N.a N.n N.c, .slice O.a O.n O.c] 29))).at_; replace hb0 := below_new (below_then hb0 h3) (.cells #[.int .i64 cd0, .int .i64 ch0, .int .i64 cl0, .int .i64 cv0, .int .i64 cu0, .int .i64 cx0, .int .i64 ct0, .int .i64 cn0, .slice E.a E.n E.c, .slice L.a L.n L.c, .slice N.a N.n N.c, .slice O.a O.n O.c] 29); have q3 := Blk.new 29 W3 #[.int .i64 cd0, .int .i64 ch0, .int .i64 cl0, .int .i64 cv0, .int .i64 cu0, .int .i64 cx0, .int .i64 ct0, .int .i64 cn0, .slice E.a E.n E.c, .slice L.a L.n L.c, .slice N.a N.n N.c, .slice O.a O.n O.c]; clear h3 hM k24' c0 c1 c2 c3 c4 c5 c6 c7 q1; obtain ⟨b0, b1, b2, b3, b4, b5, b6, b7, b8, b9, b10, b11⟩ := q3.c12; clear q3)
                | (go_at_call 14; refine (k14 E L N O Y U' D' _ hM3).mono ?_; rintro e W4 ⟨rfl, h4⟩; replace hb0 := below_then hb0 h4; clear h4 b0 b1 b2 b3 b4 b5 b6 b7 b8 b9 b10 b11 hM3 k14; obtain ⟨cb, W5, ec, cx, fz, hbs, cv, hbn⟩ := kb W4; have hb1 := below_then hb0 hbs; have hb2 := below_then hb0 hbn; clear hbs hbn hb0 kb)
                | (go_at_call 22; refine (kU _).mono ?_; rintro e W6 ⟨E2, L2, N2, O2, rfl, h6⟩; replace hb1 := below_then hb1 h6; clear h6 kU)
                | (go_at_call 22; refine (kA _).mono ?_; rintro e W7 ⟨E3, L3, N3, O3, rfl, h7⟩; replace hb1 := below_then (below_new hb1 _) h7; clear h7))
              all_goals go_ret
              all_goals exact ⟨rfl, below_new hb1 _⟩
          · have g2' : decide ((p : Int) < (Q : Int)) = false := by simp; omega
            obtain ⟨hp, ch', kD, sm⟩ := HH.out
            replace kU := kU (kD (by rw [ch' (by omega) (fun h => absurd h g2)]; decide))
            have g2'' : Q ≤ p := by omega
            have g2'3 : decide (Q ≤ p) = true := by simp; omega
            clear hp ch' kD sm
            go_wp2_with (first
              | (go_at_call 24; refine k24'.mono ?_; rintro e W3 ⟨E, L, N, O, Y, U', D', rfl, hM, h3⟩; have hM3 := (hM.below (below_new (Below.refl _ _) (.cells #[.int .i64 cd0, .int .i64 ch0, .int .i64 cl0, .int .i64 cv0, .int .i64 cu0, .int .i64 cx0, .int .i64 ct0, .int .i64 cn0, .slice E.a E.n E.c, .slice L.a L.n L.c, .slice N.a N.n N.c, .slice O.a O.n O.c] 29))).at_; replace hb0 := below_new (below_then hb0 h3) (.cells #[.int .i64 cd0, .int .i64 ch0, .int .i64 cl0, .int .i64 cv0, .int .i64 cu0, .int .i64 cx0, .int .i64 ct0, .int .i64 cn0, .slice E.a E.n E.c, .slice L.a L.n L.c, .slice N.a N.n N.c, .slice O.a O.n O.c] 29); have q3 := Blk.new 29 W3 #[.int .i64 cd0, .int .i64 ch0, .int .i64 cl0, .int .i64 cv0, .int .i64 cu0, .int .i64 cx0, .int .i64 ct0, .int .i64 cn0, .slice E.a E.n E.c, .slice L.a L.n L.c, .slice N.a N.n N.c, .slice O.a O.n O.c]; clear h3 hM k24' c0 c1 c2 c3 c4 c5 c6 c7 q1; obtain ⟨b0, b1, b2, b3, b4, b5, b6, b7, b8, b9, b10, b11⟩ := q3.c12; clear q3)
              | (go_at_call 14; refine (k14 E L N O Y U' D' _ hM3).mono ?_; rintro e W4 ⟨rfl, h4⟩; replace hb0 := below_then hb0 h4; clear h4 b0 b1 b2 b3 b4 b5 b6 b7 b8 b9 b10 b11 hM3 k14; obtain ⟨cb, W5, ec, cx, fz, hbs, cv, hbn⟩ := kb W4; have hb1 := below_then hb0 hbs; have hb2 := below_then hb0 hbn; clear hbs hbn hb0 kb)
              | (go_at_call 22; refine (kU _).mono ?_; rintro e W6 ⟨E2, L2, N2, O2, rfl, h6⟩; replace hb1 := below_then hb1 h6; clear h6 kU)
              | (go_at_call 22; refine (kA _).mono ?_; rintro e W7 ⟨E3, L3, N3, O3, rfl, h7⟩; replace hb1 := below_then (below_new hb1 _) h7; clear h7))
            all_goals go_ret
            all_goals exact ⟨rfl, below_new hb1 _⟩

theorem contract (H : Type) (enc : TypeId × Value → H) (W : World) (base : Nat) (args : Array Value) (ds gs : List (DataW H)) (before : List MemPlace)
    (hval0 : ∀ (j : Nat) t v, Try.f8.params[j]? = some t → args[j]? = some v → Value.okWide Try.prog W .any base t v)
    (hW : DataW.Whole enc Try.prog Try.f8.params.toList Rows.ckptChangedSpec.vars false W args.toList ds gs before) :
    Calls Try.prog 8 args W fun e W' => ∃ v, e = .returned v ∧ Rows.ckptChangedSpec.post enc Try.prog Try.f8 false true false false W args v W' := by
  have hval : ∀ (j : Nat) t v, Try.f8.params[j]? = some t → args[j]? = some v → Value.okWide Try.prog W .any base t v := hval0
  have hW' := hW
  obtain ⟨p, q, hA0, hV, rfl, hfz, hnd⟩ := hW
  have hA : DataW.TrodAll enc Try.prog W 0 (fun _ => true) true Try.f8.params.toList args.toList ds p := hA0
  rw [Try.params8] at hA hval
  obtain ⟨v0, vs0, d0, ds0, p0, q0, hargs, rfl, rfl, h0, r0⟩ := trodAll_cons hA
  obtain ⟨v1, vs1, d1, ds1, p1, q1, rfl, rfl, rfl, h1, r1⟩ := trodAll_cons r0
  obtain ⟨v2, vs2, d2, ds2, p2, q2, rfl, rfl, rfl, h2, r2⟩ := trodAll_cons r1
  obtain ⟨v3, vs3, d3, ds3, p3, q3, rfl, rfl, rfl, h3, r3⟩ := trodAll_cons r2
  obtain ⟨rfl, rfl, rfl⟩ := trodAll_nil r3
  obtain rfl : args = #[v0, v1, v2, v3] := by cases args; simp_all
  obtain ⟨rfl, rfl⟩ := trodVars_none hV
  have k0 := h0
  have lt0 : ∀ x ∈ p0, x.block < W.heap.size := by obtain ⟨m, hm⟩ := k0; exact DataW.trod_lt m _ _ _ hm
  obtain ⟨cd0, ch0, cl0, cv0, cu0, cx0, ct0, cn0, rfl⟩ := open_cfg (hval 0 23 v0 rfl rfl) h0
  obtain ⟨a1, rfl, rfl, rfl, w1⟩ := open_int Try.underlying45 (hval 1 45 v1 rfl rfl) h1
  obtain ⟨a2, rfl, rfl, rfl, w2⟩ := open_int Try.underlying3 (hval 2 3 v2 rfl rfl) h2
  obtain ⟨a3, rfl, rfl, rfl, w3⟩ := open_int Try.underlying5 (hval 3 5 v3 rfl rfl) h3
  clear hA0 hval0
  refine (walk cd0 ch0 cl0 cv0 cu0 cx0 ct0 cn0 a1 a2 a3 W  w1 w2 w3).mono fun e W' ⟨he, bel⟩ => ?_
  subst he
  exact ⟨_, rfl, _, _, _, [], _, [], hW', trodAll_mk1 (shut_bool Try.underlying4 _), (trodAll_cons_mk (Below.trod laidOut (by kernel_rfl) (of_decide_eq_true (by kernel_rfl)) k0 bel lt0) (trodAll_cons_mk (shut_int Try.underlying45 w1) (trodAll_cons_mk (shut_int Try.underlying3 w2) (trodAll_cons_mk (shut_int Try.underlying5 w3) trodAll_mk0)))), rfl, bel.frame _, fun h => by cases h⟩

set_option maxRecDepth 100000 in
theorem lifted (os : Os) (started : os.Started) (H : Type) (enc : TypeId × Value → H) :
    ReturnsInHanded {} Try.checked os 8 .any (Rows.ckptChangedSpec.pre6 enc Try.prog Try.f8 Rows.ckptChangedRow.domain false) (Rows.ckptChangedSpec.post enc Try.prog Try.f8 false true false false) := by
  refine returnsInHanded_of_change (C := Try.checked) own started (by kernel_rfl) Try.func8
    (ChangeSpec.witness6 (enc := enc) (C := Try.checked) false ⟨#[], #[.agg #[.int .i64 0, .int .i64 0, .int .i64 0, .int .i64 0, .int .i64 0, .int .i64 0, .int .i64 0, .int .i64 0], .int .u64 0, .int .i64 0, .int .u8 0], []⟩ 8 (by kernel_rfl) (by kernel_rfl) (by kernel_rfl) (by kernel_rfl)) ?_
  intro W base args ds gs before hval hW _ _
  exact contract H enc W base args ds gs before hval hW

theorem over : Rows.ckptChangedRow.holds Try.pinned (OpenSpec.ofChange Rows.ckptChangedSpec) :=
  OpenClaim.holds_of_wide 8 Try.f8 rfl rfl rfl rfl rfl rfl rfl ⟨rfl, rfl, rfl, rfl, rfl⟩ rfl rfl rfl rfl rfl (by kernel_rfl) Try.func8 (by kernel_rfl)
    (of_decide_eq_true (by kernel_rfl)) (by unfold Func.isWrapper; first | (rw [if_pos (by decide +kernel)]; kernel_rfl) | (rw [if_neg (by decide +kernel)]; exact ⟨rfl, rfl⟩))
    (fun os started H enc _ => lifted os started H enc)

theorem proved : Rows.CkptChangedSaid :=
  over
#print axioms proved
end Go.Proofs.Ytjbeloljbjfibaa.ckptChanged

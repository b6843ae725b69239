/- For every number (its rest of 64, and one) of pages and every row of acts (its first sixty, each a drop or a taking of fewer than eight pages): what is taken is the free pages with the least numbers, rising, or nothing where there are too few, and a drop is answered just where the page is used; no page has a tag that was never used; and the examples of works() hold. -/
import Derived.Test.YtjkjfgmbjcjofaaRows
import Derived.Test.YtjkjfgmbjcjofaaView
import Derived.Test.YtjkjfgmbjcjofaaOwn
import Derived.Test.YtjkjfgmbjcjofaaPages
import Derived.Test.YtjkjfgmbjcjofaaReadsP
import Derived.Test.YtjkjfgmbjcjofaaReadsQ
import Derived.Test.YtjkjfgmbjcjofaaLeast
import Derived.Test.YtjkjfgmbjcjofaaLays
import Derived.Test.YtjkjfgmbjcjofaaTurns
import Derived.Test.YtjkjfgmbjcjofaaNews
import Derived.Test.YtjkjfgmbjcjofaaGoods
import Derived.Test.YtjkjfgmbjcjofaaCount
import Derived.Test.YtjkjfgmbjcjofaaOpenOps
import Derived.Test.YtjkjfgmbjcjofaaWorks11
import Derived.Test.YtjkjfgmbjcjofaaOne
import Derived.Test.YtjkjfgmbjcjofaaUses
import Derived.WalkKit
import Derived.ProofKit
import Derived.OpenShut
import Derived.ChangeOld
import Derived.Below
import Derived.WalkLawsBesides
import Derived.ChangeMaps5
import Derived.Deep.QuietTactic
import Derived.BigQuiet
import Derived.OwnWalk
import Derived.Deep.RegionWith
import Derived.Deep.RegionHeld3
namespace Go.Proofs.Ytjkjfgmbjcjofaa.poolLeast
open Go.ChangeShapes Go.WideShapes Go.ChangeAt Go.RowKit
set_option linter.unusedVariables false
set_option linter.unusedSimpArgs false

theorem own : ownKnob Try.prog.godebug = none := by kernel_rfl
theorem laidOut : laidOutB Try.prog = true := by kernel_rfl


theorem take_upd (f : Nat → Bool) (R : List Int) (j Q : Nat) (hj : j < R.length) (eQ : R.getD j 0 = (Q : Int)) (x : Nat) : upd (fun x => f x || decide ((x : Int) ∈ R.take j)) Q true x = (f x || decide ((x : Int) ∈ R.take (j + 1))) := by
  have e : R.take (j + 1) = R.take j ++ [(Q : Int)] := by
    rw [List.take_add_one]
    have : R[j]? = some (Q : Int) := by rw [List.getElem?_eq_getElem hj]; simp [List.getD, hj] at eQ; rw [eQ]
    rw [this]
    rfl
  rw [e]
  by_cases ex : x = Q
  · subst ex
    rw [upd_same]
    simp
  · rw [upd_other _ _ _ _ ex]
    have : ¬ (x : Int) = (Q : Int) := by omega
    simp [List.mem_append, this]

theorem own_base {w : World} {B : Nat} {e : TypeId} {v : Value} {n : Nat} {cs : List Value} (h : w.ownsRow B e 1 v n cs) : w.ownsRow 0 e 1 v n cs := by
  refine ⟨h.1, ?_⟩
  rcases h.2 with h1 | ⟨g, cap, cur, h1, h2, h3⟩
  · exact .inl h1
  · exact .inr ⟨g, cap, cur, h1, Nat.zero_le _, h3⟩

set_option maxHeartbeats 4000000 in
set_option maxRecDepth 20000 in
theorem walk (a0 : Int) (a1 : Option Addr) (n1 c1 : Nat) (O1 : Nat → OpV) (w : World) (w0 : (Lit.int .i64 a0).wf = true) (w1 : OpsAt w a1 n1 O1) (e1 : a1 = none → c1 = 0) (l1 : n1 ≤ c1) :
    Calls Try.prog 6 #[.int .i64 a0, .slice a1 n1 c1] w fun e w' => e = .returned (.bool true) ∧ Below w.heap.size w w' := by
  obtain ⟨i0, hi, hz0, hz1, hz2⟩ := info_parts info3
  have hm1 := w1.max
  obtain ⟨M, hM, (eM : (IntKind.u64.wrap a0).tmod 64 = (M : Int)), (eM' : IntKind.u64.wrap a0 % 64 = (M : Int))⟩ := restN a0 64 (by decide)
  obtain ⟨N, eN⟩ : ∃ N : Nat, 1 + M = N := ⟨_, rfl⟩
  have eN' : (1 : Int) + (M : Int) = (N : Int) := by omega
  have hN : 1 ≤ N ∧ N ≤ 64 := by omega
  clear eN
  have k15 := works_call w
  have k7 := new_call N (by omega) (by omega)
  have hmk := made4 N (by omega)
  have hL0 := hidden_ (lst_new N (by omega) (by omega))
  have hops := hidden_ w1
  have hb := hidden_ (Below.refl w.heap.size w)
  clear w1
  go_enter Try.func6, Try.ntmps6
  go_wp2_with (first
    | (go_at_call 15; refine k15.mono ?_; rintro e W1 ⟨rfl, hb'⟩; clear k15; replace hb := hidden_ hb'; clear hb')
    | (go_at_call 7; refine (k7 _).mono ?_; rintro e W2 ⟨rfl, hp', hbl⟩; clear k7; have hp := hidden_ (hp' _ hb.out.size); replace hb := hidden_ (below_then hb.out hbl); clear hp' hbl))
  obtain ⟨b, eb⟩ : ∃ b, W1.heap.size + 1 = b := ⟨_, rfl⟩
  rw [eb] at hp ⊢
  clear eb
  obtain ⟨g, eg⟩ : ∃ g, W1.heap.size = g := ⟨_, rfl⟩
  rw [eg] at hp
  clear eg eM eM' eN' hmk
  have hst : Hid (PoolAt w.heap.size (W2.alloc (falses N)) b g (newPl N) ∧ UsedAt w.heap.size (W2.alloc (falses N)) W2.heap.size N (usedF (newPl N)) ∧ Below w.heap.size w (W2.alloc (falses N))) :=
    ⟨hp.out.below (below_new (Below.refl _ _) _), by rw [usedF_new]; exact used_new _ _ _ hb.out.size, below_new hb.out _⟩
  obtain ⟨u, eu⟩ : ∃ u, W2.heap.size = u := ⟨_, rfl⟩
  rw [eu] at hst ⊢
  clear eu hp hb
  obtain ⟨XU, eXU⟩ : ∃ XU : Addr, XU = ⟨u, 0, none⟩ := ⟨_, rfl⟩
  rw [← eXU]
  have HXU := hidden_ eXU
  clear eXU
  go_loopw [8] (fun i wr => ∃ k : Nat, k ≤ n1 ∧ k ≤ 60 ∧ i = .int .i64 k ∧ (∃ s, Lst N s ∧ PoolAt w.heap.size wr b g s ∧ UsedAt w.heap.size wr u N (usedF s)) ∧ Below w.heap.size w wr) (fun i _ => n1 - (intOf i).toNat)
  case atStart => exact ⟨0, Nat.zero_le _, Nat.zero_le _, rfl, ⟨_, hL0.out, hst.out.1, hst.out.2.1⟩, hst.out.2.2⟩
  case round =>
    clear hst
    obtain ⟨k, hk, hk', rfl, ⟨s, hL, hp, hu⟩, hb'⟩ := hrel
    by_cases hlt : k < n1 ∧ k < 60
    · obtain ⟨y1, y2⟩ := hlt
      have y1' : (k : Int) < (n1 : Int) := by omega
      have y2' : (k : Int) < 60 := by omega
      obtain ⟨x, rfl⟩ := hops.out.some_ (by omega)
      have cl := (hops.out.below hb').cell x rfl k y1
      obtain ⟨P, eP⟩ : ∃ P, x.add (k * 5) = P := ⟨_, rfl⟩
      rw [eP] at cl
      obtain ⟨d0, -, d2, -, -⟩ := cl
      have d2' : wr.cell? ⟨P.block, P.off + 2, none⟩ = some (.int .i64 (O1 k).n) := d2
      clear d2
      obtain ⟨on, eon⟩ : ∃ on, (O1 k).n = on := ⟨_, rfl⟩
      obtain ⟨ok, eok⟩ : ∃ ok, (O1 k).k = ok := ⟨_, rfl⟩
      rw [eok] at d0
      rw [eon] at d2'
      clear eok eon
      obtain ⟨K, hK, (eK : (IntKind.u64.wrap on).tmod 8 = (K : Int)), (eK' : IntKind.u64.wrap on % 8 = (K : Int))⟩ := restN on 8 (by decide)
      by_cases h5 : ok = 5
      · subst h5
        obtain ⟨Q, hQ, eQ, eQ'⟩ := restN on N (by omega)
        have eW : IntKind.u64.wrap (N : Int) = (N : Int) := by rw [IntKind.wrap_u64]; omega
        have eZ : ((N : Int) == 0) = false := by simp; omega
        obtain ⟨hL2, hU2, hE⟩ := lst_drop hL Q hQ
        have k21 := fun (W : World) (q : PoolAt w.heap.size W b g s) => drop_call q hL.good (by decide) (Q : Int)
        have du := hu.cell Q hQ
        have eX : XU.add Q = ⟨u, Q, none⟩ := by rw [HXU.out, add_zero_at]
        obtain ⟨E, eE⟩ : ∃ E, shE s Q = E := ⟨_, rfl⟩
        obtain ⟨S, eS⟩ : ∃ S, drS s Q = S := ⟨_, rfl⟩
        obtain ⟨V, eV⟩ : ∃ V, usedF s Q = V := ⟨_, rfl⟩
        simp only [eE, eS] at k21
        rw [eE, eV] at hE
        rw [eS] at hL2 hU2
        rw [eV] at du
        have hE' : (E == 0) = V := by rw [← hE]; rfl
        have hpD : Hid (PoolAt w.heap.size wr.drew b g s) := hp.drewN 1
        have key : Hid (∀ W, Off w.heap.size TP wr.drew W → UsedAt w.heap.size W u N (usedF s) ∧ Below w.heap.size w W) := fun W q => by
          have q' : Off w.heap.size TP wr W := ⟨q.os, q.tape, q.output, q.size, q.block⟩
          exact ⟨hu.off q' rfl, hb'.trans (q'.below hb'.size)⟩
        have HS := hidden_ (And.intro hL2 hU2)
        have HV := hidden_ eV
        clear eE eS eV hL2 hU2 hL hp hu hb' hE
        cases V with
        | false =>
          go_wp2
          go_region_held3 (fun W => W.cell? ⟨u, Q, none⟩ = some (.bool false)) (first | assumption | exact du) (first
            | (go_at_call 21; refine (k21 _ hpD.out).mono ?_; rintro e W3 ⟨rfl, q1, o1⟩; obtain ⟨u1, b1⟩ := key.out W3 o1; have du' := u1.cell Q hQ; rw [HV.out] at du'; have dop := u1.row.open_ Q; have hz := hidden_ (And.intro q1 (And.intro (u1.set Q hQ false) b1)); clear u1 b1 q1 o1))
          all_goals
            clear k21 key
            go_wp2
            go_roundw
            case rel => exact ⟨k + 1, by omega, by omega, by go_num, ⟨S, HS.out.1, (hz.out.1.off hz.out.2.1.2 rfl rfl), by rw [HS.out.2]; exact hz.out.2.1.1⟩, hz.out.2.2.trans (hz.out.2.1.2.below hz.out.2.2.size)⟩
            case measure => simp [intOf]; omega
        | true =>
          go_wp2
          go_region_held3 (fun W => W.cell? ⟨u, Q, none⟩ = some (.bool true)) (first | assumption | exact du) (first
            | (go_at_call 21; refine (k21 _ hpD.out).mono ?_; rintro e W3 ⟨rfl, q1, o1⟩; obtain ⟨u1, b1⟩ := key.out W3 o1; have du' := u1.cell Q hQ; rw [HV.out] at du'; have dop := u1.row.open_ Q; have hz := hidden_ (And.intro q1 (And.intro (u1.set Q hQ false) b1)); clear u1 b1 q1 o1))
          all_goals
            clear k21 key
            go_wp2
            go_roundw
            case rel => exact ⟨k + 1, by omega, by omega, by go_num, ⟨S, HS.out.1, (hz.out.1.off hz.out.2.1.2 rfl rfl), by rw [HS.out.2]; exact hz.out.2.1.1⟩, hz.out.2.2.trans (hz.out.2.1.2.below hz.out.2.2.size)⟩
            case measure => simp [intOf]; omega
      · have h5' : (ok == 5) = false := by simp [h5]
        have HLs := hidden_ hL
        have hall := hidden_ (And.intro hp (And.intro hu hb'))
        clear h5 hL hp hu hb'
        go_wp2
        clear d0 d2' eK eK'
        go_loopw [10, 11] (fun v i W => ∃ j : Nat, j ≤ N ∧ i = .int .i64 j ∧ W.ownsRow wr.heap.size 3 1 v (tk s.pg K j).length ((tk s.pg K j).map (Value.int .i64)) ∧ Below wr.heap.size wr W) (fun _ i _ => N - (intOf i).toNat)
        case atStart => exact ⟨0, Nat.zero_le _, rfl, World.ownsRow_nil _ _ _ _, Below.refl _ _⟩
        case round =>
          rename World => W3
          obtain ⟨j, hj, rfl, ho, hbj⟩ := hrel
          obtain ⟨a, c, rfl⟩ := own_form ho
          have hl := tk_le s.pg K j
          obtain ⟨L, eL⟩ : ∃ L, (tk s.pg K j).length = L := ⟨_, rfl⟩
          rw [eL] at hl ho ⊢
          by_cases hjt : j < N
          · have hjt' : (j : Int) < (N : Int) := by omega
            by_cases hL : L < K
            · have hL' : (L : Int) < (K : Int) := by omega
              have du := (hall.out.2.1.below hbj).cell j hjt
              have eX : XU.add j = ⟨u, j, none⟩ := by rw [HXU.out, add_zero_at]
              obtain ⟨V, eV⟩ : ∃ V, usedF s j = V := ⟨_, rfl⟩
              rw [eV] at du
              cases V with
              | false =>
                have eO : (s.pg j).ow = 0 := by simpa [usedF] using eV
                have es := tk_yes s.pg K j eO (by omega)
                have hlL : (tk s.pg K (j + 1)).length = L + 1 := by rw [es, List.length_append, eL]; rfl
                have HS := hidden_ (And.intro es hlL)
                have hsz := hbj.size
                have hbj2 := hidden_ hbj
                clear es hlL eV eO eL hbj
                go_wp2_with (first
                  | (at_builtin; refine wpList_append_own _ rfl (.tmp 91) (.tmp 93) 40 rfl wr.heap.size 3 i0 (.int .i64 0) 1 8 Try.underlying40 hi hz0 hz1 hz2 rfl (by decide) _ _ _ rfl (World.ownsRow.alloc (w := W3) ho _) ⟨_, 0, none⟩ 1 1 [.int .i64 j] rfl rfl (one_new _ _ _) (one_oneCell _ _) (by unfold maxLen; omega) (by omega) (by simp; omega) ?_; intro v' w3 ho' hg _))
                have hb3 : Below wr.heap.size wr w3 := (hbj2.out.alloc hsz _).grown hg (by simp; omega) (fun q hq => (ho.lt q hq).1)
                go_roundw
                case rel => exact ⟨j + 1, by omega, by go_num, by rw [HS.out.2, HS.out.1, ints_snoc]; exact ho', hb3⟩
                case measure => simp [intOf]; omega
              | true =>
                have eO : (s.pg j).ow ≠ 0 := by simpa [usedF] using eV
                have es := tk_no s.pg K j (fun x => eO x.1)
                have HS := hidden_ (And.intro es eL)
                have hq := hidden_ (And.intro ho hbj)
                clear es eV eO eL ho hbj
                go_wp2
                go_roundw
                case rel => exact ⟨j + 1, by omega, by go_num, by rw [HS.out.1, HS.out.2]; exact hq.out.1, hq.out.2⟩
                case measure => simp [intOf]; omega
            · have hLK : L = K := by omega
              have hL' : ¬ (L : Int) < (K : Int) := by omega
              have stp := tk_stop s.pg tX K j (eL.trans hLK) (N - j)
              rw [show j + (N - j) = N by omega] at stp
              have HLen := hidden_ eL
              have tl := tk_len s.pg K N
              rw [stp.1, eL] at tl
              obtain ⟨tE, tR, hL2, tU⟩ := lst_take HLs.out K (by omega)
              have k16 := take_call (hall.out.1.below hbj) HLs.out.good tX (K : Int)
              rw [tE, tR] at k16
              obtain ⟨S, eS⟩ : ∃ S, takeS s tX (K : Int) = S := ⟨_, rfl⟩
              rw [eS] at k16 hL2 tU
              obtain ⟨R, eR⟩ : ∃ R, tk s.pg K N = R := ⟨_, rfl⟩
              rw [eR] at k16 tU
              have HR := hidden_ (show R.length = K by rw [← eR]; exact (by rw [tk_len]; omega))
              have HB := hidden_ (show ∀ z ∈ R, 0 ≤ z ∧ z < (N : Int) by rw [← eR]; exact tk_lt s.pg K N)
              have HU := hidden_ tU
              have HL2 := hidden_ hL2
              have hwant : Hid (RowI 0 W3 a L c R) := ⟨by rw [← eR, stp.1]; exact HLen.out, by rw [← eR, stp.1]; exact own_base ho, by rw [← eR]; exact tk_wf s.pg K N (by omega)⟩
              have hA := hidden_ (And.intro (hall.out.2.1.below hbj) (below_then hall.out.2.2 hbj))
              clear tE tR tU hL2 eS eR stp tl ho hbj eL hl
              obtain rfl := hLK.symm
              go_wp2_with (first
                | (go_at_call 16; refine k16.mono ?_; rintro e W4 ⟨a2, l2, c2, rfl, y2, hp', o'⟩; have hl2 := y2.len; rw [HR.out] at hl2; subst hl2; have hz := hidden_ (And.intro hp' (And.intro (hwant.out.off o' rfl) (And.intro y2 (And.intro (hA.out.1.off o' rfl) (hA.out.2.trans (o'.below hA.out.2.size)))))); clear hp' o' y2 hwant hA k16))
              go_loopw [14] (fun i wr => ∃ q : Nat, q ≤ K ∧ i = .int .i64 q ∧ UsedAt w.heap.size wr u N (fun x => usedF s x || decide ((x : Int) ∈ R.take q)) ∧ Off w.heap.size T4 W4 wr) (fun i _ => K - (intOf i).toNat)
              case atStart => exact ⟨0, Nat.zero_le _, rfl, hz.out.2.2.2.1.congr (fun x _ => by simp), Off.refl _ _ _⟩
              case round =>
                obtain ⟨j3, hj3, rfl, hu3, of3⟩ := hrel
                by_cases hjt : j3 < K
                · have hjt' : (j3 : Int) < (K : Int) := by omega
                  have r1 := (hz.out.2.1.off of3 rfl).reads
                  have r2 := (hz.out.2.2.1.off of3 rfl).reads
                  obtain ⟨z1, rfl⟩ := r1.some_ (by omega)
                  obtain ⟨z2, rfl⟩ := r2.some_ (by omega)
                  have c1 := r1.cell z1 rfl j3 hjt
                  have c2' := r2.cell z2 rfl j3 hjt
                  have hb3 := HB.out (R.getD j3 0) (by have hlen := HR.out; rw [List.getD_eq_getElem?_getD, List.getElem?_eq_getElem (by omega)]; exact List.getElem_mem _)
                  obtain ⟨Q, eQ⟩ : ∃ Q : Nat, R.getD j3 0 = (Q : Int) := ⟨(R.getD j3 0).toNat, by omega⟩
                  rw [eQ] at c1 c2' hb3
                  have hQ : Q < N := by omega
                  obtain ⟨hu4, of4⟩ := hu3.set Q hQ true
                  have du := hu3.cell Q hQ
                  have dop := hu3.row.open_ Q
                  have eX : XU.add Q = ⟨u, Q, none⟩ := by rw [HXU.out, add_zero_at]
                  have HN : Hid (UsedAt w.heap.size (wr.setCell ⟨u, Q, none⟩ (.bool true)) u N (fun x => usedF s x || decide ((x : Int) ∈ R.take (j3 + 1))) ∧ Off w.heap.size T4 W4 (wr.setCell ⟨u, Q, none⟩ (.bool true))) :=
                    ⟨hu4.congr (fun x _ => take_upd (usedF s) R j3 Q (by rw [HR.out]; exact hjt) eQ x), of3.trans of4⟩
                  clear hu3 of3 r1 r2 hb3 eQ hu4 of4
                  go_wp2
                  go_quiet (fail)
                  go_wp2
                  go_roundw
                  case rel => exact ⟨j3 + 1, by omega, by go_num, ⟨HN.out.1.Bu, HN.out.1.row, HN.out.1.cell⟩, ⟨HN.out.2.os, HN.out.2.tape, HN.out.2.output, HN.out.2.size, HN.out.2.block⟩⟩
                  case measure => simp [intOf]; omega
                · have e3 : j3 = K := by omega
                  subst e3
                  have HN : Hid (PoolAt w.heap.size wr b g S ∧ UsedAt w.heap.size wr u N (usedF S) ∧ Below w.heap.size w wr) :=
                    ⟨hz.out.1.off of3 rfl rfl, hu3.congr (fun x hx => by rw [HU.out x hx, List.take_of_length_le (by rw [HR.out]; exact Nat.le_refl _)]), hz.out.2.2.2.2.trans (of3.below hz.out.2.2.2.2.size)⟩
                  clear hu3 of3
                  go_wp2
                  go_roundw
                  case rel => exact ⟨k + 1, by omega, by omega, by go_num, ⟨S, HL2.out, HN.out.1, HN.out.2.1⟩, HN.out.2.2⟩
                  case measure => simp [intOf]; omega
          · have ej : j = N := by omega
            subst ej
            have tl := tk_len s.pg K j
            rw [eL] at tl
            have HLen := hidden_ eL
            by_cases hL : L < K
            · have hL' : (L : Int) < (K : Int) := by omega
              obtain ⟨tE, tR, tS⟩ := lst_few HLs.out K (by omega)
              have k16 := take_call (hall.out.1.below hbj) HLs.out.good tX (K : Int)
              rw [tE, tR, tS] at k16
              have hA := hidden_ (And.intro (hall.out.2.1.below hbj) (below_then hall.out.2.2 hbj))
              clear tE tR tS ho hbj eL tl
              go_wp2_with (first
                | (go_at_call 16; refine k16.mono ?_; rintro e W4 ⟨a2, l2, c2, rfl, y2, hp', o'⟩; have hl2 : 0 = l2 := y2.len; subst hl2; have hz := hidden_ (And.intro hp' (And.intro (hA.out.1.off o' rfl) (hA.out.2.trans (o'.below hA.out.2.size)))); clear hp' o' y2 hA k16))
              go_roundw
              case rel => exact ⟨k + 1, by omega, by omega, by go_num, ⟨s, HLs.out, hz.out.1, hz.out.2.1⟩, hz.out.2.2⟩
              case measure => simp [intOf]; omega
            · have hLK : L = K := by omega
              have hL' : ¬ (L : Int) < (K : Int) := by omega
              obtain ⟨tE, tR, hL2, tU⟩ := lst_take HLs.out K (by omega)
              have k16 := take_call (hall.out.1.below hbj) HLs.out.good tX (K : Int)
              rw [tE, tR] at k16
              obtain ⟨S, eS⟩ : ∃ S, takeS s tX (K : Int) = S := ⟨_, rfl⟩
              rw [eS] at k16 hL2 tU
              obtain ⟨R, eR⟩ : ∃ R, tk s.pg K j = R := ⟨_, rfl⟩
              rw [eR] at k16 tU
              have HR := hidden_ (show R.length = K by rw [← eR]; exact (by rw [tk_len]; omega))
              have HB := hidden_ (show ∀ z ∈ R, 0 ≤ z ∧ z < (j : Int) by rw [← eR]; exact tk_lt s.pg K j)
              have HU := hidden_ tU
              have HL2 := hidden_ hL2
              have hwant : Hid (RowI 0 W3 a L c R) := ⟨by rw [← eR]; exact HLen.out, by rw [← eR]; exact own_base ho, by rw [← eR]; exact tk_wf s.pg K j (by omega)⟩
              have hA := hidden_ (And.intro (hall.out.2.1.below hbj) (below_then hall.out.2.2 hbj))
              clear tE tR tU hL2 eS eR tl ho hbj eL hl
              obtain rfl := hLK.symm
              go_wp2_with (first
                | (go_at_call 16; refine k16.mono ?_; rintro e W4 ⟨a2, l2, c2, rfl, y2, hp', o'⟩; have hl2 := y2.len; rw [HR.out] at hl2; subst hl2; have hz := hidden_ (And.intro hp' (And.intro (hwant.out.off o' rfl) (And.intro y2 (And.intro (hA.out.1.off o' rfl) (hA.out.2.trans (o'.below hA.out.2.size)))))); clear hp' o' y2 hwant hA k16))
              go_loopw [14] (fun i wr => ∃ q : Nat, q ≤ K ∧ i = .int .i64 q ∧ UsedAt w.heap.size wr u j (fun x => usedF s x || decide ((x : Int) ∈ R.take q)) ∧ Off w.heap.size T4 W4 wr) (fun i _ => K - (intOf i).toNat)
              case atStart => exact ⟨0, Nat.zero_le _, rfl, hz.out.2.2.2.1.congr (fun x _ => by simp), Off.refl _ _ _⟩
              case round =>
                obtain ⟨j3, hj3, rfl, hu3, of3⟩ := hrel
                by_cases hjt : j3 < K
                · have hjt' : (j3 : Int) < (K : Int) := by omega
                  have r1 := (hz.out.2.1.off of3 rfl).reads
                  have r2 := (hz.out.2.2.1.off of3 rfl).reads
                  obtain ⟨z1, rfl⟩ := r1.some_ (by omega)
                  obtain ⟨z2, rfl⟩ := r2.some_ (by omega)
                  have c1 := r1.cell z1 rfl j3 hjt
                  have c2' := r2.cell z2 rfl j3 hjt
                  have hb3 := HB.out (R.getD j3 0) (by have hlen := HR.out; rw [List.getD_eq_getElem?_getD, List.getElem?_eq_getElem (by omega)]; exact List.getElem_mem _)
                  obtain ⟨Q, eQ⟩ : ∃ Q : Nat, R.getD j3 0 = (Q : Int) := ⟨(R.getD j3 0).toNat, by omega⟩
                  rw [eQ] at c1 c2' hb3
                  have hQ : Q < j := by omega
                  obtain ⟨hu4, of4⟩ := hu3.set Q hQ true
                  have du := hu3.cell Q hQ
                  have dop := hu3.row.open_ Q
                  have eX : XU.add Q = ⟨u, Q, none⟩ := by rw [HXU.out, add_zero_at]
                  have HN : Hid (UsedAt w.heap.size (wr.setCell ⟨u, Q, none⟩ (.bool true)) u j (fun x => usedF s x || decide ((x : Int) ∈ R.take (j3 + 1))) ∧ Off w.heap.size T4 W4 (wr.setCell ⟨u, Q, none⟩ (.bool true))) :=
                    ⟨hu4.congr (fun x _ => take_upd (usedF s) R j3 Q (by rw [HR.out]; exact hjt) eQ x), of3.trans of4⟩
                  clear hu3 of3 r1 r2 hb3 eQ hu4 of4
                  go_wp2
                  go_quiet (fail)
                  go_wp2
                  go_roundw
                  case rel => exact ⟨j3 + 1, by omega, by go_num, ⟨HN.out.1.Bu, HN.out.1.row, HN.out.1.cell⟩, ⟨HN.out.2.os, HN.out.2.tape, HN.out.2.output, HN.out.2.size, HN.out.2.block⟩⟩
                  case measure => simp [intOf]; omega
                · have e3 : j3 = K := by omega
                  subst e3
                  have HN : Hid (PoolAt w.heap.size wr b g S ∧ UsedAt w.heap.size wr u j (usedF S) ∧ Below w.heap.size w wr) :=
                    ⟨hz.out.1.off of3 rfl rfl, hu3.congr (fun x hx => by rw [HU.out x hx, List.take_of_length_le (by rw [HR.out]; exact Nat.le_refl _)]), hz.out.2.2.2.2.trans (of3.below hz.out.2.2.2.2.size)⟩
                  clear hu3 of3
                  go_wp2
                  go_roundw
                  case rel => exact ⟨k + 1, by omega, by omega, by go_num, ⟨S, HL2.out, HN.out.1, HN.out.2.1⟩, HN.out.2.2⟩
                  case measure => simp [intOf]; omega
    · have cn := lst_cnt hL N (Nat.le_refl _)
      have k12 := count_call hp (by rw [hL.n]; omega) tY
      rw [hL.n, cn] at k12
      have hb2 := hidden_ hb'
      clear hb' hp hL hu cn
      by_cases y1 : k < n1
      · have y2 : k = 60 := by omega
        have y1' : (k : Int) < (n1 : Int) := by omega
        subst y2
        clear hlt
        go_wp2_with (first | (go_at_call 12; refine k12.mono ?_; rintro e W6 ⟨rfl, h6⟩; obtain rfl := h6.symm; clear k12))
        go_ret
        exact ⟨rfl, hb2.out⟩
      · have y1' : ¬ (k : Int) < (n1 : Int) := by omega
        clear hlt
        go_wp2_with (first | (go_at_call 12; refine k12.mono ?_; rintro e W6 ⟨rfl, h6⟩; obtain rfl := h6.symm; clear k12))
        go_ret
        exact ⟨rfl, hb2.out⟩

theorem contract (H : Type) (enc : TypeId × Value → H) (W : World) (base : Nat) (args : Array Value) (ds gs : List (DataW H)) (before : List MemPlace)
    (hval0 : ∀ (j : Nat) t v, Try.f6.params[j]? = some t → args[j]? = some v → Value.okWide Try.prog W .any base t v)
    (hW : DataW.Whole enc Try.prog Try.f6.params.toList Rows.poolLeastSpec.vars false W args.toList ds gs before) :
    Calls Try.prog 6 args W fun e W' => ∃ v, e = .returned v ∧ Rows.poolLeastSpec.post enc Try.prog Try.f6 false true false false W args v W' := by
  have hval : ∀ (j : Nat) t v, Try.f6.params[j]? = some t → args[j]? = some v → Value.okWide Try.prog W .any base t v := hval0
  have hW' := hW
  obtain ⟨p, q, hA0, hV, rfl, hfz, hnd⟩ := hW
  have hA : DataW.TrodAll enc Try.prog W 0 (fun _ => true) true Try.f6.params.toList args.toList ds p := hA0
  rw [Try.params6] at hA hval
  obtain ⟨v0, vs0, d0, ds0, p0, q0, hargs, rfl, rfl, h0, r0⟩ := trodAll_cons hA
  obtain ⟨v1, vs1, d1, ds1, p1, q1, rfl, rfl, rfl, h1, r1⟩ := trodAll_cons r0
  obtain ⟨rfl, rfl, rfl⟩ := trodAll_nil r1
  obtain rfl : args = #[v0, v1] := by cases args; simp_all
  obtain ⟨rfl, rfl⟩ := trodVars_none hV
  obtain ⟨a0, rfl, rfl, rfl, w0⟩ := open_int Try.underlying3 (hval 0 3 v0 rfl rfl) h0
  obtain ⟨a1, n1, c1, rfl⟩ := okWide_slice Try.underlying22 (hval 1 22 v1 rfl rfl)
  have k1 := h1
  have lt1 : ∀ x ∈ p1, x.block < W.heap.size := by obtain ⟨m, hm⟩ := k1; exact DataW.trod_lt m _ _ _ hm
  obtain ⟨O1, w1, e1, l1⟩ := open_ops h1
  clear hA0 hval0
  refine (walk a0 a1 n1 c1 O1 W w0 w1 e1 l1).mono fun e W' ⟨he, bel⟩ => ?_
  subst he
  exact ⟨_, rfl, _, _, _, [], _, [], hW', trodAll_mk1 (shut_bool Try.underlying4 _), (trodAll_cons_mk (shut_int Try.underlying3 w0) (trodAll_cons_mk (Below.trod laidOut (by kernel_rfl) (of_decide_eq_true (by kernel_rfl)) k1 bel lt1) trodAll_mk0)), rfl, bel.frame _, fun h => by cases h⟩

set_option maxRecDepth 100000 in
theorem lifted (os : Os) (started : os.Started) (H : Type) (enc : TypeId × Value → H) :
    ReturnsInHanded {} Try.checked os 6 .any (Rows.poolLeastSpec.pre6 enc Try.prog Try.f6 Rows.poolLeastRow.domain false) (Rows.poolLeastSpec.post enc Try.prog Try.f6 false true false false) := by
  refine returnsInHanded_of_change (C := Try.checked) own started (by kernel_rfl) Try.func6
    (ChangeSpec.witness6 (enc := enc) (C := Try.checked) false ⟨#[], #[.int .i64 0, .slice none 0 0], []⟩ 8 (by kernel_rfl) (by kernel_rfl) (by kernel_rfl) (by kernel_rfl)) ?_
  intro W base args ds gs before hval hW _ _
  exact contract H enc W base args ds gs before hval hW

theorem over : Rows.poolLeastRow.holds Try.pinned (OpenSpec.ofChange Rows.poolLeastSpec) :=
  OpenClaim.holds_of_wide 6 Try.f6 rfl rfl rfl rfl rfl rfl rfl ⟨rfl, rfl, rfl, rfl, rfl⟩ rfl rfl rfl rfl rfl (by kernel_rfl) Try.func6 (by kernel_rfl)
    (of_decide_eq_true (by kernel_rfl)) (by unfold Func.isWrapper; first | (rw [if_pos (by decide +kernel)]; kernel_rfl) | (rw [if_neg (by decide +kernel)]; exact ⟨rfl, rfl⟩))
    (fun os started H enc _ => lifted os started H enc)

theorem proved : Rows.PoolLeastSaid :=
  over
#print axioms proved
end Go.Proofs.Ytjkjfgmbjcjofaa.poolLeast

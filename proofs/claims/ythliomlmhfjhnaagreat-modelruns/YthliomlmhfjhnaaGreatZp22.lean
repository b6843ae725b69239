/- Texts put together. -/
import Derived.Test.YthliomlmhfjhnaaGreatZp15
import Derived.Test.YthliomlmhfjhnaaGreatZp18
namespace Go.Proofs.YthliomlmhfjhnaaGreat
set_option maxRecDepth 20000
set_option maxHeartbeats 16000000
open Go.ChangeShapes Go.WideShapes Go.ChangeAt Go.RowKit
set_option linter.unusedVariables false
set_option linter.unusedSimpArgs false
theorem Qif (a0:Option Addr)(n0 c0:Nat)(ro:List Int)(a1:Option Addr)(n c1:Nat)(A1:Nat→Option Addr)(C1:Nat→Nat)(U:Nat→List Int)(a2:Option Addr)(m c2:Nat)(A2:Nat→Option Addr)(C2:Nat→Nat)(D:Nat→List Int)(h k:Int)(a5:Option Addr)(n5 c5:Nat)(xs:List Int)(w:World)(h0:Reads .i8 w a0 n0 ro)(l0:n0≤c0)(g1:Nets w a1 n A1 C1 U)(g2:Nets w a2 m A2 C2 D)(h5:Reads .i64 w a5 n5 xs)(wh:(Lit.int .i64 h).wf=true)(wk:(Lit.int .i64 k).wf=true)(b0:n0*8≤140737488355328)(b1:n*24≤140737488351232)(b5:n5*8≤140737488355328)(hn:n=1)(hm:m=1)(hf:oneB (U 0) (D 0) h xs=true) :
  Calls Tryz.prog 123 #[.slice a0 n0 c0,.slice a1 n c1,.slice a2 m c2,I4 h,I4 k,.slice a5 n5 c5] w fun e w'=>(∃ a,e=.returned (.slice (some a) n5 n5)∧Reads .i64 w' (some a) n5 (oneL (U 0) (D 0) xs))∧Bw w w':=by
 subst hn
 subst hm
 obtain⟨x,rfl⟩:=g1.grid.some_ (by omega)
 obtain⟨y,rfl⟩:=g2.grid.some_ (by omega)
 have cx:=fun (W:World) (hb:Bw w W)=>(g1.grid.below hb).cell x rfl 0 (by omega)
 have cy:=fun (W:World) (hb:Bw w W)=>(g2.grid.below hb).cell y rfl 0 (by omega)
 simp only[Addr.add_zero'] at cx cy
 have ko:=fun (W:World) (hb:Bw w W)=>QkY (A1 0) (U 0).length (C1 0) (U 0) (A2 0) (D 0).length (C2 0) (D 0) h a5 n5 c5 xs W ((g1.grid.row 0 (by omega)).below hb) (g1.cap 0 (by omega)) ((g2.grid.row 0 (by omega)).below hb) (g2.cap 0 (by omega)) (h5.below hb) wh (g1.bnd 0 (by omega)) (g2.bnd 0 (by omega)) hf
 go_enter Tryz.func123,Tryz.ntmps123
 go_wp2_with (first
  | (go_at_call 137;refine (Qea _ _).mono ?_;rintro e w' ⟨rfl,hq⟩;obtain rfl:=hq.symm))
 refine Qk5 x y 1 c1 c2 (U 0).length (C1 0) (D 0).length (C2 0) n5 c5 (A1 0) (A2 0) a5 h (oneL (U 0) (D 0) xs) (fun W=>Bw w W) (by kernel_rfl) rfl (by (repeat' apply And.intro)<;>exact⟨_,rfl,rfl,rfl,rfl,by kernel_rfl⟩) bR.drew (QbG _ _ _ (by omega)) (fun W hb=>Qag (cx W hb)) (QbG _ _ _ (by omega)) (fun W hb=>Qag (cy W hb)) (fun W hb=>(ko W hb).mono fun e w' ⟨⟨a,q1,q2,q3,q4⟩,q5⟩=>⟨a,q1,q2,q5,bTn hb q5⟩) rfl rfl rfl rfl (Nat.le_of_ble_eq_true rfl) ?_
 intro a W9 hs hd hkp hS9 hval
 obtain⟨b9,e12,f12⟩:=hval 9 12 (by decide) rfl
 obtain⟨f,ef,ep⟩:=fPz [34,35,36,37,38,39,40,41,42,12] rfl hs hd hkp
 simp only[ef] at e12
 simp only[List.foldl,e12,Act.put,List.setIfInBounds_toArray,List.set_cons_succ,List.set_cons_zero] at ep
 have H9:=hdn hS9
 clear hs hd hkp hval hS9 e12 ef
 subst ep
 go_wp2
 go_ret
 exact⟨⟨_,rfl,f12⟩,H9.out⟩
theorem Qmp (d:Nat)(hb:d*8≤140737488355328):0≤(d:Int)*65536∧(d:Int)*65536≤9223372036854775807:=by omega
theorem Qh0 (a0 : Option Addr) (d c0 : Nat) (q : List Int) (a1 : Option Addr) (n c1 : Nat) (A : Nat → Option Addr) (C : Nat → Nat) (K : Nat → List Int) (a2 : Option Addr) (c2 : Nat) (A' : Nat → Option Addr) (C' : Nat → Nat) (V : Nat → List Int) (w : World)
    (h0 : Reads .i64 w a0 d q) (h1 : Grid w a1 n A C K) (h2 : Grid w a2 n A' C' V) (hd : 0 < d) (hn : 0 < n) (hr : ∀ r, r < n → (K r).length = d ∧ (V r).length = d) (hb0 : d * 8 ≤ 140737488351232) (hb1 : n * 8 ≤ 140737488351232) :
    Calls Tryz.prog 108 #[.slice a0 d c0, .slice a1 n c1, .slice a2 n c2] w fun e w' => (∃ a c, e = .returned (.tuple #[.slice a d c, I4 0]) ∧ Reads .i64 w' a d (QcA q K V d n) ∧ (a = none → c = 0)) ∧ Bw w w' := by
  obtain ⟨i0, hi, hz0, hz1, hz2⟩ := info_parts QaT
  have hm := h0.max
  have hm1 := h1.max
  have lm := Qmp d (by omega)
  have kf := Qff a0 d c0 a1 n c1 A C K a2 c2 A' C' V w h1 h2 hd hn hr
  have kr := Qc6 ((d : Int) * 65536)
  have wr' := Qge ((d : Int) * 65536)
  have ef : ∀ i, scoreF q K d i = mulZ (Qce q (K i) 16) (Qbe ((d : Int) * 65536)) := fun _ => rfl
  obtain ⟨S, eS⟩ : ∃ S, Qbe ((d : Int) * 65536) = S := ⟨_, rfl⟩
  rw [eS] at kr wr'
  simp only [eS] at ef
  clear eS
  have sl := QdK (scoresZ q K d n) n
  have eh : QcA q K V d n = (List.range d).map (QaF (QbE (scoresZ q K d n) n) V n) := rfl
  have wh := QfD q K V d n
  have lh := Qcn q K V d n
  have kso := fun (W : World) a c (h : Reads .i64 W a n (scoresZ q K d n)) => QdN a n c (scoresZ q K d n) W h (by omega)
  obtain ⟨s, es⟩ : ∃ s, QbE (scoresZ q K d n) n = s := ⟨_, rfl⟩
  rw [es] at sl eh
  simp only [es] at kso
  clear es
  go_enter Tryz.func108, Tryz.ntmps108
  go_wp2_with (first
    | (go_at_call 107; refine kf.mono ?_; rintro e w' ⟨rfl, h⟩; obtain rfl := h.symm; clear kf)
    | (go_at_call 75; refine (kr _).mono ?_; rintro e w' ⟨rfl, h⟩; obtain rfl := h.symm))
  go_loopw [9, 10] (fun v i wr => ∃ k : Nat, k ≤ n ∧ i = I4 k ∧ Bw w wr ∧ wr.ownsRow w.heap.size 2 1 v k (gath (scoreF q K d) .i64 k)) (fun _ i _ => n - (intOf i).toNat)
  case atStart => exact ⟨0, Nat.zero_le _, rfl, Below.refl _ _, World.ownsRow_nil _ _ _ _⟩
  case round =>
    obtain ⟨k, hk, rfl, hbr, ho⟩ := hrel
    by_cases hlt : k < n
    · have hg := h1.below hbr
      obtain ⟨x, rfl⟩ := h1.some_ (by omega)
      have cx := hg.cell x rfl k hlt
      have rk := hg.row k hlt
      rw [(hr k hlt).1] at cx rk
      have ki := QfL a0 d c0 q (A k) d (C k) (K k) wr (h0.below hbr) rk
      simp only [if_true] at ki
      have wd := Qj8 q (K k) 16
      have efk := ef k
      obtain ⟨D, eD⟩ : ∃ D, Qce q (K k) 16 = D := ⟨_, rfl⟩
      rw [eD] at ki wd efk
      have km := fun W => refMul_call D S wd wr' W
      rw [← efk] at km
      obtain ⟨E, eE⟩ : ∃ E, scoreF q K d k = E := ⟨_, rfl⟩
      rw [eE] at km
      have Ez : Hid (E = scoreF q K d k) := eE.symm
      clear eE efk eD ef hg rk h1 h0 hr kr h2 kso sl eh wh lh
      go_wp2_with (first
        | (go_at_call 127; refine ki.mono ?_; rintro e W2 ⟨rfl, hq⟩
           have hb2 := bDr (Below.refl wr.heap.size wr) hq
           have ho2 := oBe ho hb2
           have hbr2 := bTn hbr hb2
           have hsz2 := hbr2.size
           clear hb2 hq ki ho hbr)
        | (go_at_call 76; refine (km _).mono ?_; rintro e w' ⟨rfl, h⟩; obtain rfl := h.symm)
        | (at_builtin; refine wpList_append_own _ rfl (.tmp 42) (.tmp 46) 34 rfl w.heap.size 2 i0 (I4 0) 1 8 Tryz.underlying34 hi hz0 hz1 hz2 rfl (by decide) _ _ _ rfl (ho2.alloc _) ⟨_, 0, none⟩ 1 1 [I4 E] rfl rfl (Qai _ _ _) (oOc _ _) (by unfold maxLen; omega) (by omega) (by simp; omega) ?_; intro v' w1 ho' hg _))
      go_roundw
      case rel => exact ⟨k + 1, by omega, by go_num, aSt hsz2 Ez.out hbr2 ho2 ho' hg⟩
      case measure => simp [intOf]; omega
    · have e : k = n := by omega
      subst e
      rename World => W1
      obtain ⟨ta, tc, rfl, rt⟩ := oRe (zs := scoresZ q K d k) ho (QcD ..) (fun z hz => by obtain ⟨y, _, rfl⟩ := List.mem_map.1 hz; exact Qj5 _ _) (fun i hi => by rw [QaP _ _ _ _ hi]; simp [scoresZ, hi])
      have ks := kso W1 ta tc rt
      clear ho kso rt ef
      go_wp2_with (first
        | (go_at_call 128; refine ks.mono ?_; rintro e W2 ⟨⟨sa, sc, rfl, r2⟩, b2⟩; replace b2 := bTn hbr b2; clear ks hbr))
      have g2 := h2.below b2
      clear h2 h1 h0
      go_loopw [14, 15] (fun v i wr => ∃ j : Nat, j ≤ d ∧ i = I4 j ∧ Bw W2 wr ∧ wr.ownsRow W2.heap.size 2 1 v j (gath (QaF s V k) .i64 j)) (fun _ i _ => d - (intOf i).toNat)
      case atStart => exact ⟨0, Nat.zero_le _, rfl, Below.refl _ _, World.ownsRow_nil _ _ _ _⟩
      case round =>
        obtain ⟨j, hj, rfl, hbr, ho⟩ := hrel
        by_cases hlt : j < d
        · have rs := r2.below hbr
          have gv := g2.below hbr
          have hsz := hbr.size
          rename World => W3
          clear eh wh lh kr wr'
          go_wp2
          go_loopw [16, 17] (fun b i wr => ∃ l : Nat, l ≤ k ∧ i = I4 l ∧ b = I4 (Qan s V j l) ∧ ∃ m, wr = W3.drewN m) (fun _ i _ => k - (intOf i).toNat)
          case atStart => exact ⟨0, Nat.zero_le _, rfl, rfl, 0, rfl⟩
          case round =>
            obtain ⟨l, hl, rfl, rfl, m, hw⟩ := hrel
            by_cases hlt' : l < k
            · obtain ⟨x, rfl⟩ := rs.some_ (by omega)
              obtain ⟨y, rfl⟩ := gv.some_ (by omega)
              have cx : wr.cell? (x.add l) = some (I4 (s.getD l 0)) := by rw [hw]; exact rs.cell x rfl l hlt'
              have rk := gv.row l hlt'
              have cy : wr.cell? (y.add l) = some (.slice (A' l) d (C' l)) := by rw [hw, ← (hr l hlt').2]; exact gv.cell y rfl l hlt'
              rw [(hr l hlt').2] at rk
              obtain ⟨z, ez⟩ := rk.some_ (by omega)
              have cz : wr.cell? (z.add j) = some (I4 ((V l).getD j 0)) := by rw [hw]; exact rk.cell z ez j hlt
              rw [ez] at cy
              have es : Qan s V j (l + 1) = addZ (Qan s V j l) (s.getD l 0 * cZ ((V l).getD j 0)) := rfl
              have ws := QbN s V j l
              have bs := sl l
              obtain ⟨X, eX⟩ : ∃ X, s.getD l 0 = X := ⟨_, rfl⟩
              obtain ⟨Y, eY⟩ : ∃ Y, (V l).getD j 0 = Y := ⟨_, rfl⟩
              obtain ⟨T, eT⟩ : ∃ T, Qan s V j l = T := ⟨_, rfl⟩
              rw [eX] at cx es bs
              rw [eY] at cz es
              rw [eT] at es ws ⊢
              have bc := cZb Y
              have bp := QbJ _ _ bs bc
              have wp : (Lit.int .i64 (X * cZ Y)).wf = true := WalkArith.wf_i64 ⟨by omega, by omega⟩
              have Es : Hid (Qan s V j (l + 1) = addZ T (X * cZ Y)) := es
              have Hw : Hid (wr = W3.drewN m) := hw
              clear eX eY eT es rk hw rs gv hr sl g2 r2 hbr ho b2 hi hz0 hz1 hz2 ez hn
              go_wp2
              go_quiet (first | (go_at_call 73; refine Calls.quiet_of_same (rCc _ _)) | (go_at_call 72; refine Calls.quiet_of_same (Qbu _ _ ws wp _)))
              go_wp2
              go_roundw
              case rel => exact ⟨l + 1, by omega, by go_num, by rw [Es.out], _, by rw [Hw.out, World.drewN_drewN]⟩
              case measure => simp [intOf]; omega
            · have e : l = k := by omega
              subst e
              have ws := QbN s V j l
              have hq := bDr (Below.refl W3.heap.size W3) ⟨m, hw⟩
              have ho2 := oBe ho hq
              have hbr2 := bTn hbr hq
              have hsz2 := hbr2.size
              have ksh := fun W => refShift_call (Qan s V j l) 16 ws (by decide) W
              have kcl := fun W => rCc (Qac (Qan s V j l) 16) W
              have eb : cZ (Qac (Qan s V j l) 16) = QaF s V l j := rfl
              obtain ⟨T, eT⟩ : ∃ T, Qan s V j l = T := ⟨_, rfl⟩
              rw [eT] at eb ⊢
              simp only [eT] at ksh kcl
              obtain ⟨U, eU⟩ : ∃ U, Qac T 16 = U := ⟨_, rfl⟩
              rw [eU] at eb
              simp only [eU] at ksh kcl
              obtain ⟨E, eE⟩ : ∃ E, cZ U = E := ⟨_, rfl⟩
              rw [eE] at eb
              simp only [eE] at kcl
              have Ez : Hid (E = QaF s V l j) := eb
              clear eE eU eT eb hw hq ho hbr rs gv hr sl g2 r2 ws
              go_wp2_with (first
                | (go_at_call 74; refine (ksh _).mono ?_; rintro e w' ⟨rfl, h⟩; obtain rfl := h.symm)
                | (go_at_call 73; refine (kcl _).mono ?_; rintro e w' ⟨rfl, h⟩; obtain rfl := h.symm)
                | (at_builtin; refine wpList_append_own _ rfl (.tmp 77) (.tmp 81) 34 rfl W2.heap.size 2 i0 (I4 0) 1 8 Tryz.underlying34 hi hz0 hz1 hz2 rfl (by decide) _ _ _ rfl (ho2.alloc _) ⟨_, 0, none⟩ 1 1 [I4 E] rfl rfl (Qai _ _ _) (oOc _ _) (by unfold maxLen; omega) (by omega) (by simp; omega) ?_; intro v' w1 ho' hg _))
              go_roundw
              case rel => exact ⟨j + 1, by omega, by go_num, aSt hsz2 Ez.out hbr2 ho2 ho' hg⟩
              case measure => simp [intOf]; omega
        · have e : j = d := by omega
          subst e
          obtain ⟨a, c, rfl, hR⟩ := oRe (zs := QcA q K V j k) ho lh wh (fun i hi => by rw [QaP _ _ _ _ hi, eh]; simp [hi])
          have hend := bTn b2 hbr
          have hnone : a = none → c = 0 := fun h => by
            obtain ⟨x, hx⟩ := hR.some_ hd
            rw [hx] at h
            cases h
          clear ho hbr
          go_wp2
          go_ret2
          exact ⟨⟨_, _, rfl, hR, hnone⟩, hend⟩
end Go.Proofs.YthliomlmhfjhnaaGreat

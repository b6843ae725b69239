/- Texts put together. -/
import Derived.Test.YthliomlmhfjhnaaGreatZs15
import Derived.Test.YthliomlmhfjhnaaGreatZs14
import Derived.Test.YthliomlmhfjhnaaGreatZs21
import Derived.Test.YthliomlmhfjhnaaGreatZs12
namespace Go.Proofs.YthliomlmhfjhnaaGreat
set_option maxRecDepth 20000
set_option maxHeartbeats 16000000
open Go.ChangeShapes Go.WideShapes Go.ChangeAt Go.RowKit
set_option linter.unusedVariables false
set_option linter.unusedSimpArgs false
theorem wf_siluZ (y:Int):(Lit.int .i64 (siluZ y)).wf=true:=wCz _
theorem one_yes (a0 : Option Addr) (n0 c0 : Nat) (up : List Int) (a1 : Option Addr) (n1 c1 : Nat) (down : List Int) (h : Int) (a3 : Option Addr) (n3 c3 : Nat) (xs : List Int) (w : World) (h0 : Reads .i8 w a0 n0 up) (l0 : n0 ≤ c0) (h1 : Reads .i8 w a1 n1 down) (l1 : n1 ≤ c1) (h3 : Reads .i64 w a3 n3 xs) (wh : (Lit.int .i64 h).wf = true) (b0 : n0 * 8 ≤ 140737488355328) (b1 : n1 * 8 ≤ 140737488355328) (hf : oneB up down h xs = true) :
    Calls Tryz.prog 138 #[.slice a0 n0 c0, .slice a1 n1 c1, .int .i64 h, .slice a3 n3 c3] w fun e w' => (∃ a, e = .returned (.slice (some a) n3 n3) ∧ Reads .i64 w' (some a) n3 (oneL up down xs) ∧ w.heap.size ≤ a.block ∧ a.block < w'.heap.size) ∧ Below w.heap.size w w' := by
  obtain ⟨f1, f2⟩ := Bool.and_eq_true _ _ ▸ (show (fitB up.length h xs.length && fitB down.length (xs.length : Int) (hidL up xs).length) = true from hf)
  have el := oneL_length hf
  rw [h3.len] at el
  rw [h0.len, h3.len] at f1
  clear hf
  have ku := mat_yes a0 n0 c0 up h a3 n3 c3 xs w h0 l0 h3 f1 b0
  have hle := Nat.div_le_self n0 n3
  have hm3 := h3.max
  have hm1 := h1.max
  obtain ⟨R, eR⟩ : ∃ R, n0 / n3 = R := ⟨_, rfl⟩
  have eh : (hidL up xs).length = R := by rw [hidL_length, h0.len, h3.len, eR]
  rw [eR] at ku hle
  rw [h1.len, h3.len, eh] at f2
  have ha : ∀ j, j < R → (hidL up xs).getD j 0 = siluZ (rowZ up n3 xs j) := fun j hj => by
    rw [hidL_at _ _ _ (by rw [h0.len, h3.len, eR]; exact hj), h3.len]
  have Eh := hdn (And.intro eh ha)
  clear eR f1 eh ha
  have hRm : R ≤ 9223372036854775807 := by omega
  go_enter Tryz.func138, Tryz.ntmps138
  go_wp2_with (first
    | (go_at_call 49; refine ku.mono ?_; rintro e w1 ⟨⟨cs0, rfl, hr1, ho1, hc1⟩, hb1⟩)
    | (go_at_call 151; refine (must_yes _ _ _ _).mono ?_; rintro e w' ⟨rfl, hq⟩; obtain rfl := hq.symm))
  clear ku hr1
  go_loopw [21] (fun i wr => ∃ k : Nat, k ≤ R ∧ i = .int .i64 k ∧ Below w.heap.size w wr ∧ ∃ cs, wr.ownsRow w.heap.size 2 1 (.slice (some ⟨w.heap.size, 0, none⟩) R R) R cs ∧ (∀ j, j < k → cs[j]? = some (.int .i64 (siluZ (rowZ up n3 xs j)))) ∧ ∀ j, k ≤ j → j < R → cs[j]? = some (.int .i64 (rowZ up n3 xs j))) (fun i _ => R - (intOf i).toNat)
  case atStart => exact ⟨0, Nat.zero_le _, rfl, hb1, _, ho1, fun j hj => by omega, fun j _ hj => hc1 j hj⟩
  case round =>
    clear hc1 ho1 hb1
    obtain ⟨k, hk, rfl, hbr, cs, ho, g1, g2⟩ := hrel
    by_cases hlt : k < R
    · have hlen := oLe ho
      have cell : wr.cell? ⟨w.heap.size, k, none⟩ = some (.int .i64 (rowZ up n3 xs k)) := (ho.cellAt k (by omega)).trans (g2 k (Nat.le_refl _) hlt)
      have wZ : (Lit.int .i64 (rowZ up n3 xs k)).wf = true := wCz _
      have ks := fun W => silu_call (rowZ up n3 xs k) wZ W
      have step := fun (W : World) (hs : W.ownsRow w.heap.size 2 1 (.slice (some ⟨w.heap.size, 0, none⟩) R R) R cs) => And.intro (hs.stored k (.int .i64 (siluZ (rowZ up n3 xs k)))).1 (And.intro (set_step (F := fun j => Value.int .i64 (siluZ (rowZ up n3 xs j))) hlen hlt rfl g1) (fun i (h : k + 1 ≤ i) (hi : i < R) => show (cs.set k (Value.int .i64 (siluZ (rowZ up n3 xs k))))[i]? = some (Value.int .i64 (rowZ up n3 xs i)) from by rw [List.getElem?_set_ne (by omega)]; exact g2 i (by omega) hi))
      have hu : cs[k]? = some (.int .i64 (rowZ up n3 xs k)) := g2 k (Nat.le_refl _) hlt
      obtain ⟨Z, eZ⟩ : ∃ Z, rowZ up n3 xs k = Z := ⟨_, rfl⟩
      rw [eZ] at cell ks step hu
      obtain ⟨E, eE⟩ : ∃ E, siluZ Z = E := ⟨_, rfl⟩
      rw [eE] at ks step
      clear eZ eE wZ g1 g2
      go_wp2_with (go_at_call 152; refine (ks _).mono ?_; rintro e W2 ⟨rfl, hb2⟩
                   have ho2 := oBe ho hb2
                   have cell2 : W2.cell? ⟨w.heap.size, k, none⟩ = some (.int .i64 Z) := (ho2.cellAt k (by omega)).trans hu
                   have froz2 := ho2.frozenAt k
                   have R0 : Below w.heap.size w (W2.setCell ⟨w.heap.size, k, none⟩ (.int .i64 E)) := (bTn hbr hb2).setCell (Nat.le_refl _) _
                   have R' := hdn (And.intro R0 (step W2 ho2))
                   clear R0
                   clear ho2 hb2)
      go_roundw
      case rel => exact ⟨k + 1, by omega, by go_num, R'.out.1, _, R'.out.2.1, R'.out.2.2.1, R'.out.2.2.2⟩
      case measure => simp [intOf]; omega
    · have e : k = R := by omega
      subst e
      have hr1 : Reads .i64 wr (some ⟨w.heap.size, 0, none⟩) k (hidL up xs) := oRa ho Eh.out.1 (fun z hz => by
        obtain ⟨y, _, rfl⟩ := List.mem_map.1 hz
        exact wf_siluZ y) (fun j hj => by rw [g1 j hj, Eh.out.2 j hj])
      clear g1 g2 ho
      have kd := mat_yes a1 n1 c1 down (n3 : Int) (some ⟨w.heap.size, 0, none⟩) k k (hidL up xs) wr (h1.below hbr) l1 hr1 f2 b1
      have en : n1 / k = n3 := by have := (fitB_yes f2).2.2; omega
      rw [en] at kd
      have hsz := hbr.size
      clear f2 en
      go_wp2_with (first
        | (go_at_call 49; refine kd.mono ?_; rintro e w2 ⟨⟨cs2, rfl, hr2, ho2, -⟩, hb2⟩)
        | (go_at_call 151; refine (must_yes _ _ _ _).mono ?_; rintro e w' ⟨rfl, hq⟩; obtain rfl := hq.symm))
      go_ret
      exact ⟨⟨_, rfl, hr2, hsz, (ho2.lt _ rfl).2⟩, bTn hbr hb2⟩
theorem mix_one_yes (a0:Option Addr)(n0 c0:Nat)(ro:List Int)(a1:Option Addr)(n c1:Nat)(A1:Nat→Option Addr)(C1:Nat→Nat)(U:Nat→List Int)(a2:Option Addr)(m c2:Nat)(A2:Nat→Option Addr)(C2:Nat→Nat)(D:Nat→List Int)(h k:Int)(a5:Option Addr)(n5 c5:Nat)(xs:List Int)(w:World)(h0:Reads .i8 w a0 n0 ro)(l0:n0≤c0)(g1:Nets w a1 n A1 C1 U)(g2:Nets w a2 m A2 C2 D)(h5:Reads .i64 w a5 n5 xs)(wh:(Lit.int .i64 h).wf=true)(wk:(Lit.int .i64 k).wf=true)(b0:n0*8≤140737488355328)(b1:n*24≤140737488351232)(b5:n5*8≤140737488355328)(hn:n=1)(hm:m=1)(hf:oneB (U 0) (D 0) h xs=true) :
  Calls Tryz.prog 123 #[.slice a0 n0 c0,.slice a1 n c1,.slice a2 m c2,.int .i64 h,.int .i64 k,.slice a5 n5 c5] w fun e w'=>(∃ a,e=.returned (.slice (some a) n5 n5)∧Reads .i64 w' (some a) n5 (oneL (U 0) (D 0) xs))∧Below w.heap.size w w':=by
 subst hn
 subst hm
 obtain⟨x,rfl⟩:=g1.grid.some_ (by omega)
 obtain⟨y,rfl⟩:=g2.grid.some_ (by omega)
 have cx:=fun (W:World) (hb:Below w.heap.size w W)=>(g1.grid.below hb).cell x rfl 0 (by omega)
 have cy:=fun (W:World) (hb:Below w.heap.size w W)=>(g2.grid.below hb).cell y rfl 0 (by omega)
 simp only[Addr.add_zero'] at cx cy
 have ko:=fun (W:World) (hb:Below w.heap.size w W)=>one_yes (A1 0) (U 0).length (C1 0) (U 0) (A2 0) (D 0).length (C2 0) (D 0) h a5 n5 c5 xs W ((g1.grid.row 0 (by omega)).below hb) (g1.cap 0 (by omega)) ((g2.grid.row 0 (by omega)).below hb) (g2.cap 0 (by omega)) (h5.below hb) wh (g1.bnd 0 (by omega)) (g2.bnd 0 (by omega)) hf
 go_enter Tryz.func123,Tryz.ntmps123
 go_wp2_with (first
  | (go_at_call 137;refine (need_yes _ _).mono ?_;rintro e w' ⟨rfl,hq⟩;obtain rfl:=hq.symm))
 refine mo_region x y 1 c1 c2 (U 0).length (C1 0) (D 0).length (C2 0) n5 c5 (A1 0) (A2 0) a5 h (oneL (U 0) (D 0) xs) (fun W=>Below w.heap.size w W) (by kernel_rfl) rfl ⟨_,rfl,rfl,rfl,rfl,by kernel_rfl⟩ ⟨_,rfl,rfl,rfl,rfl,by kernel_rfl⟩ ⟨_,rfl,rfl,rfl,rfl,by kernel_rfl⟩ ⟨_,rfl,rfl,rfl,rfl,by kernel_rfl⟩ ⟨_,rfl,rfl,rfl,rfl,by kernel_rfl⟩ ⟨_,rfl,rfl,rfl,rfl,by kernel_rfl⟩ ⟨_,rfl,rfl,rfl,rfl,by kernel_rfl⟩ ⟨_,rfl,rfl,rfl,rfl,by kernel_rfl⟩ ⟨_,rfl,rfl,rfl,rfl,by kernel_rfl⟩ ⟨_,rfl,rfl,rfl,rfl,by kernel_rfl⟩ (Below.refl _ _).drew (run_index23z _ _ _ (by omega)) (fun W hb=>run_load24 (cx W hb)) (run_index23z _ _ _ (by omega)) (fun W hb=>run_load24 (cy W hb)) (fun W hb=>(ko W hb).mono fun e w' ⟨⟨a,q1,q2,q3,q4⟩,q5⟩=>⟨a,q1,q2,q5,bTn hb q5⟩) rfl rfl rfl rfl (Nat.le_of_ble_eq_true rfl) ?_
 intro a W9 hs hd hkp hS9 hval
 obtain⟨b9,e12,f12⟩:=hval 9 12 (by decide) rfl
 have ep:=fPu [34,35,36,37,38,39,40,41,42,12] hs hd (fun s h=>hkp s (fun i hi e=>h (by
  rcases (show i=0∨i=1∨i=2∨i=3∨i=4∨i=5∨i=6∨i=7∨i=8∨i=9 by omega) with rfl|rfl|rfl|rfl|rfl|rfl|rfl|rfl|rfl|rfl<;>(simp only[moD,Option.some.injEq] at e;subst e;simp))))
 simp only[List.foldl] at ep
 rw[e12] at ep
 have H9:=hdn hS9
 clear hs hd hkp hval hS9 e12
 generalize a.tmps.getD 34 undef=g34,a.tmps.getD 35 undef=g35,a.tmps.getD 36 undef=g36,a.tmps.getD 37 undef=g37,a.tmps.getD 38 undef=g38,a.tmps.getD 39 undef=g39,a.tmps.getD 40 undef=g40,a.tmps.getD 41 undef=g41,a.tmps.getD 42 undef=g42 at ep
 simp only[Act.put,List.setIfInBounds_toArray,List.set_cons_succ,List.set_cons_zero] at ep
 subst ep
 go_wp2
 go_ret
 exact⟨⟨_,rfl,f12⟩,H9.out⟩
theorem refOne_yes (a0 : Option Addr) (n0 c0 : Nat) (up : List Int) (a1 : Option Addr) (n1 c1 : Nat) (down : List Int) (h : Int) (a3 : Option Addr) (n3 c3 : Nat) (xs : List Int) (w : World) (h0 : Reads .i8 w a0 n0 up) (l0 : n0 ≤ c0) (h1 : Reads .i8 w a1 n1 down) (l1 : n1 ≤ c1) (h3 : Reads .i64 w a3 n3 xs) (wh : (Lit.int .i64 h).wf = true) (b0 : n0 * 8 ≤ 140737488355328) (b1 : n1 * 8 ≤ 140737488355328) (hf : oneB up down h xs = true) :
    Calls Tryz.prog 110 #[.slice a0 n0 c0, .slice a1 n1 c1, .int .i64 h, .slice a3 n3 c3] w fun e w' => (∃ a c, e = .returned (.tuple #[.slice a n3 c, .int .i64 0]) ∧ Reads .i64 w' a n3 (oneL up down xs) ∧ ∀ x, a = some x → w.heap.size ≤ x.block) ∧ Below w.heap.size w w' := by
  obtain ⟨f1, f2⟩ := Bool.and_eq_true _ _ ▸ (show (fitB up.length h xs.length && fitB down.length (xs.length : Int) (hidL up xs).length) = true from hf)
  rw [h0.len, h3.len] at f1
  clear hf
  obtain ⟨i0, hi, hz0, hz1, hz2⟩ := info_parts info2
  have ku := refMat_yes a0 n0 c0 up h a3 n3 c3 xs w h0 l0 h3 f1 b0
  have hle := Nat.div_le_self n0 n3
  have hm3 := h3.max
  have hm1 := h1.max
  obtain ⟨R, eR⟩ : ∃ R, n0 / n3 = R := ⟨_, rfl⟩
  have eh : (hidL up xs).length = R := by rw [hidL_length, h0.len, h3.len, eR]
  have em : ∀ j, j < R → (matL up xs).getD j 0 = rowZ up n3 xs j := fun j hj => by
    rw [matL_at _ _ _ (by rw [h0.len, h3.len, eR]; exact hj), h3.len]
  rw [eR] at ku hle
  rw [h1.len, h3.len, eh] at f2
  have ha : ∀ j, j < R → (hidL up xs).getD j 0 = siluZ (rowZ up n3 xs j) := fun j hj => by
    rw [hidL_at _ _ _ (by rw [h0.len, h3.len, eR]; exact hj), h3.len]
  have Eh := hdn (And.intro eh ha)
  clear eR f1 eh ha
  have hRm : R ≤ 9223372036854775807 := by omega
  go_enter Tryz.func110, Tryz.ntmps110
  go_wp2_with (go_at_call 51; refine ku.mono ?_; rintro e w1 ⟨⟨am, cm, rfl, hr1, -⟩, hb1⟩)
  clear ku
  go_loopw [12, 13] (fun v i wr => ∃ k : Nat, k ≤ R ∧ i = .int .i64 k ∧ Below w1.heap.size w1 wr ∧ wr.ownsRow w1.heap.size 2 1 v k (gath (fun j => siluZ (rowZ up n3 xs j)) .i64 k)) (fun _ i _ => R - (intOf i).toNat)
  case atStart => exact ⟨0, Nat.zero_le _, rfl, Below.refl _ _, World.ownsRow_nil _ _ _ _⟩
  case round =>
    obtain ⟨k, hk, rfl, hbr, ho⟩ := hrel
    by_cases hlt : k < R
    · obtain ⟨x, rfl⟩ := hr1.some_ (by omega)
      have cx := (hr1.below hbr).cell x rfl k hlt
      rw [em k hlt] at cx
      have wZ : (Lit.int .i64 (rowZ up n3 xs k)).wf = true := wCz _
      have ks := fun W => refSilu_call (rowZ up n3 xs k) wZ W
      obtain ⟨Z, eZ⟩ : ∃ Z, rowZ up n3 xs k = Z := ⟨_, rfl⟩
      rw [eZ] at cx ks
      obtain ⟨E, eE⟩ : ∃ E, siluZ Z = E := ⟨_, rfl⟩
      rw [eE] at ks
      have Ev : Hid (E = siluZ (rowZ up n3 xs k)) := by show E = _; rw [eZ, eE]
      have hsz := hbr.size
      clear eZ eE wZ em
      go_wp2_with (first
        | (go_at_call 129; refine (ks _).mono ?_; rintro e W2 ⟨rfl, hb2⟩
           have ho2 := oBe ho hb2
           have hbr2 := bTn hbr hb2
           have hsz2 := hbr2.size
           clear hb2)
        | (at_builtin; refine wpList_append_own _ rfl (.tmp 30) (.tmp 36) 34 rfl w1.heap.size 2 i0 (.int .i64 0) 1 8 Tryz.underlying34 hi hz0 hz1 hz2 rfl (by decide) _ _ _ rfl (World.ownsRow.alloc (w := W2) ho2 _) ⟨_, 0, none⟩ 1 1 [.int .i64 E] rfl rfl (one_new _ _ _) (oOc _ _) (by unfold maxLen; omega) (by omega) (by simp; omega) ?_; intro v' w1' ho' hg _))
      go_roundw
      case rel => exact ⟨k + 1, by omega, by go_num, aSt (wr := W2) hsz2 Ev.out hbr2 ho2 ho' hg⟩
      case measure => simp [intOf]; omega
    · have e : k = R := by omega
      subst e
      have fin := oRe (zs := hidL up xs) ho Eh.out.1 (fun z hz => by
        obtain ⟨y, _, rfl⟩ := List.mem_map.1 hz
        exact wCz _) (fun j hj => by rw [gath_at _ _ _ _ hj, Eh.out.2 j hj])
      obtain ⟨al, cl, rfl, hr2⟩ := fin
      clear ho em
      have hbw := bTn hb1 hbr
      have kd := refMat_yes a1 n1 c1 down (n3 : Int) al k cl (hidL up xs) wr (h1.below hbw) l1 hr2 f2 b1
      have en : n1 / k = n3 := by have := (fitB_yes f2).2.2; omega
      rw [en] at kd
      have hsw := hbw.size
      clear f2 en
      go_wp2_with (go_at_call 51; refine kd.mono ?_; rintro e w2 ⟨⟨a2, c2, rfl, hr2, fr2⟩, hb2⟩)
      have fr : Hid (∀ x, a2 = some x → w.heap.size ≤ x.block) := fun x hx => Nat.le_trans hsw (fr2 x hx)
      clear fr2
      go_ret2
      exact ⟨⟨_, _, rfl, hr2, fr.out⟩, bTn hbw hb2⟩
theorem refOne_late (a0 : Option Addr) (n0 c0 : Nat) (up : List Int) (a1 : Option Addr) (n1 c1 : Nat) (down : List Int) (h : Int) (a3 : Option Addr) (n3 c3 : Nat) (xs : List Int) (w : World) (h0 : Reads .i8 w a0 n0 up) (l0 : n0 ≤ c0) (h1 : Reads .i8 w a1 n1 down) (l1 : n1 ≤ c1) (h3 : Reads .i64 w a3 n3 xs) (wh : (Lit.int .i64 h).wf = true) (b0 : n0 * 8 ≤ 140737488355328) (b1 : n1 * 8 ≤ 140737488355328) (f1 : fitB n0 h n3 = true) (f2 : fitB down.length (xs.length : Int) (hidL up xs).length = false) :
    Calls Tryz.prog 110 #[.slice a0 n0 c0, .slice a1 n1 c1, .int .i64 h, .slice a3 n3 c3] w fun e w' => e = .returned (.tuple #[.slice none 0 0, .int .i64 21]) ∧ Below w.heap.size w w' := by
  obtain ⟨i0, hi, hz0, hz1, hz2⟩ := info_parts info2
  have ku := refMat_yes a0 n0 c0 up h a3 n3 c3 xs w h0 l0 h3 f1 b0
  have hle := Nat.div_le_self n0 n3
  have hm3 := h3.max
  have hm1 := h1.max
  obtain ⟨R, eR⟩ : ∃ R, n0 / n3 = R := ⟨_, rfl⟩
  have eh : (hidL up xs).length = R := by rw [hidL_length, h0.len, h3.len, eR]
  have em : ∀ j, j < R → (matL up xs).getD j 0 = rowZ up n3 xs j := fun j hj => by
    rw [matL_at _ _ _ (by rw [h0.len, h3.len, eR]; exact hj), h3.len]
  rw [eR] at ku hle
  rw [h1.len, h3.len, eh] at f2
  have ha : ∀ j, j < R → (hidL up xs).getD j 0 = siluZ (rowZ up n3 xs j) := fun j hj => by
    rw [hidL_at _ _ _ (by rw [h0.len, h3.len, eR]; exact hj), h3.len]
  have Eh := hdn (And.intro eh ha)
  clear eR f1 eh ha
  have hRm : R ≤ 9223372036854775807 := by omega
  go_enter Tryz.func110, Tryz.ntmps110
  go_wp2_with (go_at_call 51; refine ku.mono ?_; rintro e w1 ⟨⟨am, cm, rfl, hr1, -⟩, hb1⟩)
  clear ku
  go_loopw [12, 13] (fun v i wr => ∃ k : Nat, k ≤ R ∧ i = .int .i64 k ∧ Below w1.heap.size w1 wr ∧ wr.ownsRow w1.heap.size 2 1 v k (gath (fun j => siluZ (rowZ up n3 xs j)) .i64 k)) (fun _ i _ => R - (intOf i).toNat)
  case atStart => exact ⟨0, Nat.zero_le _, rfl, Below.refl _ _, World.ownsRow_nil _ _ _ _⟩
  case round =>
    obtain ⟨k, hk, rfl, hbr, ho⟩ := hrel
    by_cases hlt : k < R
    · obtain ⟨x, rfl⟩ := hr1.some_ (by omega)
      have cx := (hr1.below hbr).cell x rfl k hlt
      rw [em k hlt] at cx
      have wZ : (Lit.int .i64 (rowZ up n3 xs k)).wf = true := wCz _
      have ks := fun W => refSilu_call (rowZ up n3 xs k) wZ W
      obtain ⟨Z, eZ⟩ : ∃ Z, rowZ up n3 xs k = Z := ⟨_, rfl⟩
      rw [eZ] at cx ks
      obtain ⟨E, eE⟩ : ∃ E, siluZ Z = E := ⟨_, rfl⟩
      rw [eE] at ks
      have Ev : Hid (E = siluZ (rowZ up n3 xs k)) := by show E = _; rw [eZ, eE]
      have hsz := hbr.size
      clear eZ eE wZ em
      go_wp2_with (first
        | (go_at_call 129; refine (ks _).mono ?_; rintro e W2 ⟨rfl, hb2⟩
           have ho2 := oBe ho hb2
           have hbr2 := bTn hbr hb2
           have hsz2 := hbr2.size
           clear hb2)
        | (at_builtin; refine wpList_append_own _ rfl (.tmp 30) (.tmp 36) 34 rfl w1.heap.size 2 i0 (.int .i64 0) 1 8 Tryz.underlying34 hi hz0 hz1 hz2 rfl (by decide) _ _ _ rfl (World.ownsRow.alloc (w := W2) ho2 _) ⟨_, 0, none⟩ 1 1 [.int .i64 E] rfl rfl (one_new _ _ _) (oOc _ _) (by unfold maxLen; omega) (by omega) (by simp; omega) ?_; intro v' w1' ho' hg _))
      go_roundw
      case rel => exact ⟨k + 1, by omega, by go_num, aSt (wr := W2) hsz2 Ev.out hbr2 ho2 ho' hg⟩
      case measure => simp [intOf]; omega
    · have e : k = R := by omega
      subst e
      have fin := oRe (zs := hidL up xs) ho Eh.out.1 (fun z hz => by
        obtain ⟨y, _, rfl⟩ := List.mem_map.1 hz
        exact wCz _) (fun j hj => by rw [gath_at _ _ _ _ hj, Eh.out.2 j hj])
      obtain ⟨al, cl, rfl, hr2⟩ := fin
      clear ho em
      have hbw := bTn hb1 hbr
      have kd := refMat_no a1 n1 c1 (n3 : Int) al k cl wr hm1 hRm (WalkArith.wf_i64 ⟨by omega, by omega⟩) f2
      go_wp2_with (go_at_call 51; refine kd.mono ?_; rintro e w2 ⟨rfl, hq⟩; obtain rfl := hq.symm)
      go_ret2
      exact ⟨rfl, hbw⟩
theorem refOne_early (a0:Option Addr)(n0 c0:Nat)(up:List Int)(a1:Option Addr)(n1 c1:Nat)(down:List Int)(h:Int)(a3:Option Addr)(n3 c3:Nat)(xs:List Int)(w:World)(h0:Reads .i8 w a0 n0 up)(l0:n0≤c0)(h1:Reads .i8 w a1 n1 down)(l1:n1≤c1)(h3:Reads .i64 w a3 n3 xs)(wh:(Lit.int .i64 h).wf=true)(b0:n0*8≤140737488355328)(b1:n1*8≤140737488355328)(f1:fitB n0 h n3=false) :
  Calls Tryz.prog 110 #[.slice a0 n0 c0,.slice a1 n1 c1,.int .i64 h,.slice a3 n3 c3] w fun e w'=>e=.returned (.tuple #[.slice none 0 0,.int .i64 21])∧Below w.heap.size w w':=by
 have ku:=refMat_no a0 n0 c0 h a3 n3 c3 w h0.max h3.max wh f1
 go_enter Tryz.func110,Tryz.ntmps110
 go_wp2_with (go_at_call 51;refine ku.mono ?_;rintro e w2 ⟨rfl,hq⟩;obtain rfl:=hq.symm)
 go_ret2
 exact⟨rfl,Below.refl _ _⟩
theorem refOne_no (a0:Option Addr)(n0 c0:Nat)(up:List Int)(a1:Option Addr)(n1 c1:Nat)(down:List Int)(h:Int)(a3:Option Addr)(n3 c3:Nat)(xs:List Int)(w:World)(h0:Reads .i8 w a0 n0 up)(l0:n0≤c0)(h1:Reads .i8 w a1 n1 down)(l1:n1≤c1)(h3:Reads .i64 w a3 n3 xs)(wh:(Lit.int .i64 h).wf=true)(b0:n0*8≤140737488355328)(b1:n1*8≤140737488355328)(hf:oneB up down h xs=false) :
  Calls Tryz.prog 110 #[.slice a0 n0 c0,.slice a1 n1 c1,.int .i64 h,.slice a3 n3 c3] w fun e w'=>e=.returned (.tuple #[.slice none 0 0,.int .i64 21])∧Below w.heap.size w w':=by
 have hf':(fitB up.length h xs.length && fitB down.length (xs.length:Int) (hidL up xs).length)=false:=hf
 rw[h0.len,h3.len] at hf'
 cases f1:fitB n0 h n3 with
 | false=>exact refOne_early a0 n0 c0 up a1 n1 c1 down h a3 n3 c3 xs w h0 l0 h1 l1 h3 wh b0 b1 f1
 | true =>
  rw[f1,Bool.true_and] at hf'
  exact refOne_late a0 n0 c0 up a1 n1 c1 down h a3 n3 c3 xs w h0 l0 h1 l1 h3 wh b0 b1 f1 (by rw[h3.len];exact hf')
theorem refOne_call (a0:Option Addr)(n0 c0:Nat)(up:List Int)(a1:Option Addr)(n1 c1:Nat)(down:List Int)(h:Int)(a3:Option Addr)(n3 c3:Nat)(xs:List Int)(w:World)(h0:Reads .i8 w a0 n0 up)(l0:n0≤c0)(h1:Reads .i8 w a1 n1 down)(l1:n1≤c1)(h3:Reads .i64 w a3 n3 xs)(wh:(Lit.int .i64 h).wf=true)(b0:n0*8≤140737488355328)(b1:n1*8≤140737488355328) :
  Calls Tryz.prog 110 #[.slice a0 n0 c0,.slice a1 n1 c1,.int .i64 h,.slice a3 n3 c3] w fun e w'=>(∃ a m c,e=.returned (.tuple #[.slice a m c,.int .i64 (if oneB up down h xs then 0 else 21)])∧Reads .i64 w' a m (if oneB up down h xs then oneL up down xs else []))∧Below w.heap.size w w':=by
 cases hf:oneB up down h xs with
 | true=>exact (refOne_yes a0 n0 c0 up a1 n1 c1 down h a3 n3 c3 xs w h0 l0 h1 l1 h3 wh b0 b1 hf).mono fun e w' ⟨⟨a,c,he,hr,_⟩,hb⟩=>⟨⟨a,n3,c,he,hr⟩,hb⟩
 | false=>exact (refOne_no a0 n0 c0 up a1 n1 c1 down h a3 n3 c3 xs w h0 l0 h1 l1 h3 wh b0 b1 hf).mono fun e w' ⟨he,hb⟩=>⟨⟨none,0,0,he,Reads.nil _ _⟩,hb⟩
theorem refMix_one (a0:Option Addr)(n0 c0:Nat)(ro:List Int)(a1:Option Addr)(n c1:Nat)(A1:Nat→Option Addr)(C1:Nat→Nat)(U:Nat→List Int)(a2:Option Addr)(m c2:Nat)(A2:Nat→Option Addr)(C2:Nat→Nat)(D:Nat→List Int)(h k:Int)(a5:Option Addr)(n5 c5:Nat)(xs:List Int)(w:World)(h0:Reads .i8 w a0 n0 ro)(l0:n0≤c0)(g1:Nets w a1 n A1 C1 U)(g2:Nets w a2 m A2 C2 D)(h5:Reads .i64 w a5 n5 xs)(wh:(Lit.int .i64 h).wf=true)(wk:(Lit.int .i64 k).wf=true)(b0:n0*8≤140737488355328)(b1:n*24≤140737488351232)(b5:n5*8≤140737488355328)(hn:n=1)(hm:m=1) :
  Calls Tryz.prog 71 #[.slice a0 n0 c0,.slice a1 n c1,.slice a2 m c2,.int .i64 h,.int .i64 k,.slice a5 n5 c5] w fun e w'=>(∃ a j c,e=.returned (.tuple #[.slice a j c,.int .i64 (if oneB (U 0) (D 0) h xs then 0 else 21)])∧Reads .i64 w' a j (if oneB (U 0) (D 0) h xs then oneL (U 0) (D 0) xs else []))∧Below w.heap.size w w':=by
 subst hn
 subst hm
 obtain⟨x,rfl⟩:=g1.grid.some_ (by omega)
 obtain⟨y,rfl⟩:=g2.grid.some_ (by omega)
 have cx:=fun (W:World) (hb:Below w.heap.size w W)=>(g1.grid.below hb).cell x rfl 0 (by omega)
 have cy:=fun (W:World) (hb:Below w.heap.size w W)=>(g2.grid.below hb).cell y rfl 0 (by omega)
 simp only[Addr.add_zero'] at cx cy
 have ko:=fun (W:World) (hb:Below w.heap.size w W)=>refOne_call (A1 0) (U 0).length (C1 0) (U 0) (A2 0) (D 0).length (C2 0) (D 0) h a5 n5 c5 xs W ((g1.grid.row 0 (by omega)).below hb) (g1.cap 0 (by omega)) ((g2.grid.row 0 (by omega)).below hb) (g2.cap 0 (by omega)) (h5.below hb) wh (g1.bnd 0 (by omega)) (g2.bnd 0 (by omega))
 obtain⟨EE,eE⟩:∃ EE,(if oneB (U 0) (D 0) h xs then (0:Int) else 21)=EE:=⟨_,rfl⟩
 obtain⟨O,eO⟩:∃ O,(if oneB (U 0) (D 0) h xs then oneL (U 0) (D 0) xs else [])=O:=⟨_,rfl⟩
 rw[eE,eO] at ko ⊢
 clear eE eO
 go_enter Tryz.func71,Tryz.ntmps71
 go_wp2
 refine ro_region x y 1 c1 c2 (U 0).length (C1 0) (D 0).length (C2 0) n5 c5 (A1 0) (A2 0) a5 h O EE (fun W=>Below w.heap.size w W) (by kernel_rfl) rfl ⟨_,rfl,rfl,rfl,rfl,by kernel_rfl⟩ ⟨_,rfl,rfl,rfl,rfl,by kernel_rfl⟩ ⟨_,rfl,rfl,rfl,rfl,by kernel_rfl⟩ ⟨_,rfl,rfl,rfl,rfl,by kernel_rfl⟩ ⟨_,rfl,rfl,rfl,rfl,by kernel_rfl⟩ ⟨_,rfl,rfl,rfl,rfl,by kernel_rfl⟩ ⟨_,rfl,rfl,rfl,rfl,by kernel_rfl⟩ ⟨_,rfl,rfl,rfl,rfl,by kernel_rfl⟩ ⟨_,rfl,rfl,rfl,rfl,by kernel_rfl⟩ ⟨_,rfl,rfl,rfl,rfl,by kernel_rfl⟩ ⟨_,rfl,rfl,rfl,rfl,by kernel_rfl⟩ ⟨_,rfl,rfl,rfl,rfl,by kernel_rfl⟩ ⟨_,rfl,rfl,rfl,rfl,by kernel_rfl⟩ (Below.refl _ _).drew (run_index23z _ _ _ (by omega)) (fun W hb=>run_load24 (cx W hb)) (run_index23z _ _ _ (by omega)) (fun W hb=>run_load24 (cy W hb)) (fun W hb=>(ko W hb).mono fun e w' ⟨⟨b,bn,bc,q1,q2⟩,q5⟩=>⟨b,bn,bc,q1,q2,q5,bTn hb q5⟩) rfl rfl rfl rfl (Nat.le_of_ble_eq_true rfl) ?_
 intro a W9 hs hd hkp hS9 hval
 have e13:a.tmps.getD 13 undef=.int .i64 EE:=hval 12 13 (by decide) rfl
 obtain⟨b9,n9,c9,e12,f12⟩:=hval 11 12 (by decide) rfl
 have ep:=fPu [36,37,38,39,40,41,42,43,44,45,46,12,13] hs hd (fun s h=>hkp s (fun i hi e=>h (by
  rcases (show i=0∨i=1∨i=2∨i=3∨i=4∨i=5∨i=6∨i=7∨i=8∨i=9∨i=10∨i=11∨i=12 by omega) with rfl|rfl|rfl|rfl|rfl|rfl|rfl|rfl|rfl|rfl|rfl|rfl|rfl<;>(simp only[roD,Option.some.injEq] at e;subst e;simp))))
 simp only[List.foldl] at ep
 rw[e13] at ep
 rw[e12] at ep
 have H9:=hdn hS9
 clear hs hd hkp hval hS9 e13 e12
 generalize a.tmps.getD 36 undef=g36,a.tmps.getD 37 undef=g37,a.tmps.getD 38 undef=g38,a.tmps.getD 39 undef=g39,a.tmps.getD 40 undef=g40,a.tmps.getD 41 undef=g41,a.tmps.getD 42 undef=g42,a.tmps.getD 43 undef=g43,a.tmps.getD 44 undef=g44,a.tmps.getD 45 undef=g45,a.tmps.getD 46 undef=g46 at ep
 simp only[Act.put,List.setIfInBounds_toArray,List.set_cons_succ,List.set_cons_zero] at ep
 subst ep
 go_wp2
 go_ret2
 exact⟨⟨_,_,_,rfl,f12⟩,H9.out⟩
end Go.Proofs.YthliomlmhfjhnaaGreat

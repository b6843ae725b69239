/- Shape: the adapter of a rank, a shift and weights. -/
import Derived.Test.YtbmlafgolmmekaaRows
import Derived.Test.YtbmlafgolmmekaaView
import Derived.Test.YtbmlafgolmmekaaOwn
import Derived.Test.YtbmlafgolmmekaaCfg
import Derived.Test.YtbmlafgolmmekaaCfgs
import Derived.Test.YtbmlafgolmmekaaCfgRef
import Derived.Test.YtbmlafgolmmekaaHeld
import Derived.Test.YtbmlafgolmmekaaReader
import Derived.Test.YtbmlafgolmmekaaSls
import Derived.Test.YtbmlafgolmmekaaSteps
import Derived.Test.YtbmlafgolmmekaaInv
import Derived.Test.YtbmlafgolmmekaaTyped
import Derived.Test.YtbmlafgolmmekaaAds
import Derived.Test.YtbmlafgolmmekaaRanges
import Derived.Test.YtbmlafgolmmekaaCheck
import Derived.Test.YtbmlafgolmmekaaPlan
import Derived.Test.YtbmlafgolmmekaaFlat
import Derived.WalkKit
import Derived.ProofKit
import Derived.OpenShut
import Derived.Below
import Derived.WalkLawsBesides
import Derived.Deep.QuietTactic
import Derived.BigQuiet
import Derived.Lib.QuietBelow
import Derived.Deep.RegionHeld3
namespace Go.Proofs.Ytbmlafgolmmekaa
open Go.ChangeShapes Go.WideShapes Go.ChangeAt Go.RowKit
open Go.Sort hiding Below
set_option linter.unusedVariables false


theorem wrap64_id {z : Int} (h0 : -9223372036854775808 ≤ z) (h1 : z ≤ 9223372036854775807) : IntKind.i64.wrap z = z := by
  simp only [IntKind.wrap, IntKind.bits, IntKind.signed]
  simp
  omega

theorem size_call (R d h l v u x t n : Int) (N M : Int) (hN : R * d = N) (h0 : -9223372036854775808 ≤ N) (h1 : N ≤ 9223372036854775807) (q : Int) (hq : l * 4 = q) (q0 : -9223372036854775808 ≤ q) (q1 : q ≤ 9223372036854775807) (hM : q * N = M) (m0 : -9223372036854775808 ≤ M) (m1 : M ≤ 9223372036854775807) (w : World) :
    Calls Try.prog 45 #[.int .i64 R, .agg #[.int .i64 d, .int .i64 h, .int .i64 l, .int .i64 v, .int .i64 u, .int .i64 x, .int .i64 t, .int .i64 n]] w fun e w' => e = .returned (.int .i64 M) ∧ Below w.heap.size w w' := by
  have k34 := listSize_call R d h l v u x t n N hN h0 h1
  have hb := below_new (Below.refl w.heap.size w) (.cells #[.int .i64 d, .int .i64 h, .int .i64 l, .int .i64 v, .int .i64 u, .int .i64 x, .int .i64 t, .int .i64 n] 26)
  have qc : Blk 26 (w.alloc (.cells #[.int .i64 d, .int .i64 h, .int .i64 l, .int .i64 v, .int .i64 u, .int .i64 x, .int .i64 t, .int .i64 n] 26)) w.heap.size #[.int .i64 d, .int .i64 h, .int .i64 l, .int .i64 v, .int .i64 u, .int .i64 x, .int .i64 t, .int .i64 n] := Blk.new 26 w _
  obtain ⟨W, eW⟩ : ∃ W, w.alloc (.cells #[.int .i64 d, .int .i64 h, .int .i64 l, .int .i64 v, .int .i64 u, .int .i64 x, .int .i64 t, .int .i64 n] 26) = W := ⟨_, rfl⟩
  rw [eW] at hb qc
  obtain ⟨c0, c1, c2, c3, c4, c5, c6, c7⟩ := qc.cfg
  have kn' : ∀ d' os, Calls Try.prog 34 #[.int .i64 R, .agg #[.int .i64 d, .int .i64 h, .int .i64 l, .int .i64 v, .int .i64 u, .int .i64 x, .int .i64 t, .int .i64 n]] (grow (redrawn W d') os) fun e w'' => e = .returned (.int .i64 N) ∧ ∃ p : Regrown, w'' = grow (redrawn W p.d) p.os := fun d' os =>
    Calls.regrown_of ((k34 _).mono fun e w' he => ⟨he.1, he.2⟩)
  replace c0 := cell_regrown c0
  replace c1 := cell_regrown c1
  replace c2 := cell_regrown c2
  replace c3 := cell_regrown c3
  replace c4 := cell_regrown c4
  replace c5 := cell_regrown c5
  replace c6 := cell_regrown c6
  replace c7 := cell_regrown c7
  have wq : IntKind.i64.wrap q = q := wrap64_id (by omega) (by omega)
  have wm : IntKind.i64.wrap M = M := wrap64_id (by omega) (by omega)
  clear k34 qc hN
  have E := hidden_ eW
  clear eW
  go_enter Try.func45, Try.ntmps45
  go_wp2
  rw [E.out]
  refine wp_region_quiet_below (by kernel_rfl) (by kernel_rfl) ?_
  repeat (go_big_quiet_step (first | (go_at_call 34; exact kn' _ _)))
  refine wpQuiet_nil ?_
  intro _ hw'
  obtain ⟨⟨dq, osq⟩, hw''⟩ := hw'
  subst hw''
  have hbq := below_regrown W dq osq
  replace hb := below_then hb hbq
  clear hbq kn' c0 c1 c2 c3 c4 c5 c6 c7
  go_wp2
  go_ret
  exact ⟨rfl, hb⟩

def fourth : Array Value := #[nilS, nilS, nilS, nilS]
theorem make_layers (n : Nat) (hn : n ≤ 1000) (w : World) : (Instr.makeSlice 22 (.int .i64 (n : Int)) (.int .i64 (n : Int))).run Try.prog w = .ok (.slice (some ⟨w.heap.size, 0, none⟩) n n) (w.alloc (.cells (madeCells fourth (n * 4)) 52)) := by
  obtain ⟨i, hi, hzz⟩ := Option.map_eq_some_iff.1 info52
  simp only [Prod.mk.injEq] at hzz
  obtain ⟨hz, hs, hb⟩ := hzz
  have hr := run_make (P := Try.prog) w 22 52 i _ Try.underlying22 hi hz .i64 .i64 n n (by omega) (Int.le_refl _) (by rw [hb]; omega) (by omega)
  simp only [Int.toNat_natCast, hs] at hr
  exact hr
theorem made_fourth (n p : Nat) (hp : p < n * 4) : (madeCells fourth (n * 4))[p]? = some nilS := by
  have : p % 4 < 4 := Nat.mod_lt _ (by omega)
  have e : ∀ k, k < 4 → fourth[k]! = nilS := fun k hk => by
    have : k = 0 ∨ k = 1 ∨ k = 2 ∨ k = 3 := by omega
    rcases this with rfl | rfl | rfl | rfl <;> rfl
  simp [madeCells, hp]
  exact e _ this

theorem add_at (b o j : Nat) : (⟨b, o, none⟩ : Addr).add j = ⟨b, o + j, none⟩ := by
  cases j with
  | zero => simp [Addr.add]
  | succ j => simp [Addr.add]

/-- q lists of the adapter are laid: its layers lie at block LB, itself at block AB -/
structure ShpI (LA : Addr) (B LB AB ml N q : Nat) (R S : Int) (ws : List Int) (Sx : Nat → SL) (w : World) : Prop where
  la : LA = ⟨LB, 0, none⟩
  ad : Blk 24 w AB #[.int .i64 R, .int .i64 S, .slice (some LA) ml ml]
  lay : ∃ cs, Blk 52 w LB cs ∧ cs.size = 4 * ml ∧ ∀ p, p < 4 * ml → cs[p]? = some (if p < q then (Sx p).v else nilS)
  row : ∀ p, p < q → TS B w (Sx p) (segA N ws p)
theorem ShpI.below {LA : Addr} {B LB AB ml N q : Nat} {R S : Int} {ws : List Int} {Sx : Nat → SL} {w w' : World} (h : ShpI LA B LB AB ml N q R S ws Sx w) (hb : Below w.heap.size w w') : ShpI LA B LB AB ml N q R S ws Sx w' := by
  obtain ⟨cs, q1, q2, q3⟩ := h.lay
  exact ⟨h.la, h.ad.kept hb, ⟨cs, q1.kept hb, q2, q3⟩, fun p hp => (h.row p hp).below hb⟩
theorem ShpI.cell {LA : Addr} {B LB AB ml N q : Nat} {R S : Int} {ws : List Int} {Sx : Nat → SL} {w : World} (h : ShpI LA B LB AB ml N q R S ws Sx w) (hq : q < 4 * ml) : w.cell? ⟨LB, q, none⟩ = some nilS ∧ w.frozen? ⟨LB, q, none⟩ = false := by
  obtain ⟨cs, q1, q2, q3⟩ := h.lay
  have := q3 q hq
  rw [if_neg (by omega)] at this
  exact ⟨q1.cell q this, q1.open_ q⟩
theorem ShpI.put {LA : Addr} {B LB AB ml N q : Nat} {R S : Int} {ws : List Int} {Sx : Nat → SL} {w : World} (h : ShpI LA B LB AB ml N q R S ws Sx w) (hq : q < 4 * ml) (s : SL) (hs : TS B w s (segA N ws q)) : ShpI LA B LB AB ml N (q + 1) R S ws (upd Sx q s) (w.setCell ⟨LB, q, none⟩ s.v) := by
  obtain ⟨cs, q1, q2, q3⟩ := h.lay
  have k62 : Keeps 62 w (w.setCell ⟨LB, q, none⟩ s.v) := Keeps.of_only (Only.set LB q w s.v) q1 (by decide)
  have k24 : Keeps 24 w (w.setCell ⟨LB, q, none⟩ s.v) := Keeps.of_only (Only.set LB q w s.v) q1 (by decide)
  refine ⟨h.la, k24.blk h.ad, ⟨cs.setIfInBounds q s.v, q1.set q s.v, by rw [Array.size_setIfInBounds]; exact q2, fun p hp => ?_⟩, fun p hp => ?_⟩
  · rw [Array.getElem?_setIfInBounds]
    by_cases e : q = p
    · subst e
      rw [if_pos rfl, if_pos (by omega), if_pos (by omega), upd_same]
    · rw [if_neg e, q3 p hp]
      by_cases e2 : p < q
      · rw [if_pos e2, if_pos (by omega), upd_other Sx q s (by omega)]
      · rw [if_neg e2, if_neg (by omega)]
  · by_cases e : p = q
    · subst e
      rw [upd_same]
      exact hs.step k62
    · rw [upd_other Sx q s e]
      exact (h.row p (by omega)).step k62
theorem ShpI.done {LA : Addr} {B LB AB ml N : Nat} {R S : Int} {ws : List Int} {Sx : Nat → SL} {w : World} (h : ShpI LA B LB AB ml N (4 * ml) R S ws Sx w) (hB : B ≤ LB) : NewA B w ⟨some LA, ml, ml⟩ (fun i j => Sx (4 * i + j)) (shapeV ml N ws) := by
  obtain ⟨cs, q1, q2, q3⟩ := h.lay
  intro w' hf
  refine ⟨rfl, fun _ => ⟨_, rfl⟩, (fun e => by cases e), Nat.le_refl _, fun x hx i hi j hj => ?_, fun i hi j hj => ?_⟩
  · have hx' : x = ⟨LB, 0, none⟩ := (Option.some.inj hx).symm.trans h.la
    subst hx'
    have hi' : i < ml := hi
    rw [add_at, add_at, Nat.zero_add]
    have c := q3 (i * 4 + j) (by omega)
    rw [if_pos (by omega), show i * 4 + j = 4 * i + j by omega] at c
    rw [show i * 4 + j = 4 * i + j by omega]
    exact hf _ _ (q1.cell _ c) hB
  · have hi' : i < ml := hi
    exact (h.row (4 * i + j) (by omega)).new w' hf

theorem shp_start (ml N : Nat) (R S : Int) (ws : List Int) (W2 : World) : ShpI ⟨W2.heap.size, 0, none⟩ W2.heap.size W2.heap.size (W2.heap.size + 1) ml N 0 R S ws (fun _ => SL.nought) ((W2.alloc (.cells (madeCells fourth (ml * 4)) 52)).alloc (.cells #[.int .i64 R, .int .i64 S, .slice (some ⟨W2.heap.size, 0, none⟩) ml ml] 24)) := by
  refine ⟨rfl, Blk.new_at 24 (W2.alloc _) _ _ (by simp), ⟨madeCells fourth (ml * 4), ?_, ?_, fun p hp => ?_⟩, fun p hp => absurd hp (Nat.not_lt_zero _)⟩
  · exact (Blk.new 52 W2 _).kept (below_new (Below.refl _ _) _)
  · rw [size_madeCells]; omega
  · rw [if_neg (by omega)]; exact made_fourth ml p (by omega)

theorem own_typed {w : World} {B n c : Nat} {a : Option Addr} {nn : Nat} {xs : List Value} (h : w.ownsRow B 62 1 (.slice a n c) nn xs) : ∀ y, a = some y → ∃ cur fz, w.heap[y.block]? = some (Obj.cells cur 62 fz) := by
  intro y hy
  rcases h.2 with ⟨h1, _⟩ | ⟨g, cap, cur, h1, _, h2, _⟩
  · rw [hy] at h1; simp at h1
  · simp only [Value.slice.injEq] at h1
    have e : y = ⟨g, 0, none⟩ := Option.some.inj (hy.symm.trans h1.1)
    rw [e]
    exact ⟨cur, (0, 0), h2⟩

/-- a copy, made by appending to nothing -/
theorem copied0 {W W1 : World} {m : Nat} {zs : List Int} {v : Value} (ho : W1.ownsRow W.heap.size 62 1 v (0 + m) ([] ++ zs.map (Value.int .i8))) (hg : W.grownBy W1 (Value.slice none 0 0).ownBlock)
    {a : Option Addr} {wz : World} (hr : Reads .i8 wz a m zs) : ∃ s : SL, v = .slice s.a s.n s.c ∧ TS W.heap.size W1 s zs ∧ Below W.heap.size W W1 := by
  simp only [Nat.zero_add, List.nil_append] at ho
  obtain ⟨a', c', rfl, r⟩ := own_reads ho hr.len hr.wf_mem (fun j hj => copy_at .i8 zs j (by rw [hr.len]; exact hj))
  have ty := own_typed ho
  refine ⟨⟨a', m, c'⟩, rfl, ⟨⟨r, fun ha => ?_, ?_⟩, fun y hy => ⟨?_, ty y hy⟩⟩, (Below.refl _ W).grown hg (Nat.le_refl _) (fun g h => by simp [Value.ownBlock] at h)⟩
  · rcases ho.2 with ⟨h, _⟩ | ⟨g, cap, cur, h, _⟩
    · simp only [Value.slice.injEq] at h
      exact h.2.2
    · have ha' : a' = none := ha
      subst ha'
      simp at h
  · rcases ho.2 with ⟨h, _⟩ | ⟨g, cap, cur, h, _, _, hn, _⟩
    · show m ≤ c'
      omega
    · simp only [Value.slice.injEq] at h
      show m ≤ c'
      omega
  · have hy' : a' = some y := hy
    rcases ho.2 with ⟨h, _⟩ | ⟨g, cap, cur, h, hg, _⟩
    · simp only [Value.slice.injEq] at h
      rw [h.1] at hy'
      cases hy'
    · simp only [Value.slice.injEq] at h
      rw [h.1] at hy'
      obtain rfl := Option.some.inj hy'
      exact hg

/-- the weights that are left: q lists of N are cut off -/
def Left (w : World) (ws : List Int) (T N q : Nat) (v : Value) : Prop := ∃ (y : Addr) (c : Nat), v = .slice (some y) (T - q * N) c ∧ Reads .i8 w (some y) (T - q * N) (ws.drop (q * N)) ∧ T - q * N ≤ c


theorem shape_bad (R S d h l v u x t n : Int) (a : Option Addr) (m c : Nat) (w : World)
    (k32 : ∀ w, Calls Try.prog 32 #[.int .i64 R, .int .i64 S, .agg #[.int .i64 d, .int .i64 h, .int .i64 l, .int .i64 v, .int .i64 u, .int .i64 x, .int .i64 t, .int .i64 n]] w fun e w' => e = .returned (.bool false) ∧ Below w.heap.size w w') :
    Calls Try.prog 20 #[.int .i64 R, .int .i64 S, .agg #[.int .i64 d, .int .i64 h, .int .i64 l, .int .i64 v, .int .i64 u, .int .i64 x, .int .i64 t, .int .i64 n], .slice a m c] w fun e w' => e = .returned (.tuple #[.agg #[.int .i64 0, .int .i64 0, nilS], .int .i64 20]) ∧ Below w.heap.size w w' := by
  have hb := below_new (below_new (Below.refl w.heap.size w) (.cells #[.int .i64 d, .int .i64 h, .int .i64 l, .int .i64 v, .int .i64 u, .int .i64 x, .int .i64 t, .int .i64 n] 26)) (.cells #[.int .i64 0, .int .i64 0, nilS] 24)
  have qc : Blk 26 ((w.alloc (.cells #[.int .i64 d, .int .i64 h, .int .i64 l, .int .i64 v, .int .i64 u, .int .i64 x, .int .i64 t, .int .i64 n] 26)).alloc (.cells #[.int .i64 0, .int .i64 0, nilS] 24)) w.heap.size #[.int .i64 d, .int .i64 h, .int .i64 l, .int .i64 v, .int .i64 u, .int .i64 x, .int .i64 t, .int .i64 n] := (Blk.new 26 w _).kept (below_new (Below.refl _ _) _)
  have qr : Blk 24 ((w.alloc (.cells #[.int .i64 d, .int .i64 h, .int .i64 l, .int .i64 v, .int .i64 u, .int .i64 x, .int .i64 t, .int .i64 n] 26)).alloc (.cells #[.int .i64 0, .int .i64 0, nilS] 24)) (w.heap.size + 1) #[.int .i64 0, .int .i64 0, nilS] := Blk.new_at 24 (w.alloc _) _ _ (by simp)
  obtain ⟨c0, c1, c2, c3, c4, c5, c6, c7⟩ := qc.cfg
  go_enter Try.func20, Try.ntmps20
  go_wp2_with (first | (go_at_call 32; refine (k32 _).mono ?_; rintro e W1 ⟨rfl, h1⟩; replace qr := qr.kept h1; replace qc := qc.kept h1; replace hb := below_then hb h1; clear h1 c0 c1 c2 c3 c4 c5 c6 c7; obtain ⟨c0, c1, c2, c3, c4, c5, c6, c7⟩ := qc.cfg; obtain ⟨z0, z1, z2⟩ := qr.c3; obtain ⟨o0, o1, o2⟩ := qr.o3))
  obtain ⟨W6, eW, q6, only, hz⟩ := set3 qr (.int .i64 0) (.int .i64 0) nilS
  rw [eW]
  refine bodyPost_ret (v := .tuple #[.agg #[.int .i64 0, .int .i64 0, nilS], .int .i64 20]) ?_ rfl ⟨rfl, Only.below hb (Nat.le_succ _) hb.size only⟩
  obtain ⟨y0, y1, y2⟩ := q6.c3
  simp [results, Try.results20, go_sem, y0, y1, y2]

theorem shape_len (R S d h l v u x t n : Int) (a : Option Addr) (m c : Nat) (w : World) (M : Int) (hm : ((m : Int) == M) = false) (hm' : ((m : Int) != M) = true)
    (k32 : ∀ w, Calls Try.prog 32 #[.int .i64 R, .int .i64 S, .agg #[.int .i64 d, .int .i64 h, .int .i64 l, .int .i64 v, .int .i64 u, .int .i64 x, .int .i64 t, .int .i64 n]] w fun e w' => e = .returned (.bool true) ∧ Below w.heap.size w w')
    (k45 : ∀ w, Calls Try.prog 45 #[.int .i64 R, .agg #[.int .i64 d, .int .i64 h, .int .i64 l, .int .i64 v, .int .i64 u, .int .i64 x, .int .i64 t, .int .i64 n]] w fun e w' => e = .returned (.int .i64 M) ∧ Below w.heap.size w w') :
    Calls Try.prog 20 #[.int .i64 R, .int .i64 S, .agg #[.int .i64 d, .int .i64 h, .int .i64 l, .int .i64 v, .int .i64 u, .int .i64 x, .int .i64 t, .int .i64 n], .slice a m c] w fun e w' => e = .returned (.tuple #[.agg #[.int .i64 0, .int .i64 0, nilS], .int .i64 21]) ∧ Below w.heap.size w w' := by
  have hb := below_new (below_new (Below.refl w.heap.size w) (.cells #[.int .i64 d, .int .i64 h, .int .i64 l, .int .i64 v, .int .i64 u, .int .i64 x, .int .i64 t, .int .i64 n] 26)) (.cells #[.int .i64 0, .int .i64 0, nilS] 24)
  have qc : Blk 26 ((w.alloc (.cells #[.int .i64 d, .int .i64 h, .int .i64 l, .int .i64 v, .int .i64 u, .int .i64 x, .int .i64 t, .int .i64 n] 26)).alloc (.cells #[.int .i64 0, .int .i64 0, nilS] 24)) w.heap.size #[.int .i64 d, .int .i64 h, .int .i64 l, .int .i64 v, .int .i64 u, .int .i64 x, .int .i64 t, .int .i64 n] := (Blk.new 26 w _).kept (below_new (Below.refl _ _) _)
  have qr : Blk 24 ((w.alloc (.cells #[.int .i64 d, .int .i64 h, .int .i64 l, .int .i64 v, .int .i64 u, .int .i64 x, .int .i64 t, .int .i64 n] 26)).alloc (.cells #[.int .i64 0, .int .i64 0, nilS] 24)) (w.heap.size + 1) #[.int .i64 0, .int .i64 0, nilS] := Blk.new_at 24 (w.alloc _) _ _ (by simp)
  obtain ⟨c0, c1, c2, c3, c4, c5, c6, c7⟩ := qc.cfg
  go_enter Try.func20, Try.ntmps20
  go_wp2_with (first | (go_at_call 32; refine (k32 _).mono ?_; rintro e W1 ⟨rfl, h1⟩; replace qr := qr.kept h1; replace qc := qc.kept h1; replace hb := below_then hb h1; clear h1 c0 c1 c2 c3 c4 c5 c6 c7; obtain ⟨c0, c1, c2, c3, c4, c5, c6, c7⟩ := qc.cfg; obtain ⟨z0, z1, z2⟩ := qr.c3; obtain ⟨o0, o1, o2⟩ := qr.o3) | (go_at_call 45; refine (k45 _).mono ?_; rintro e W2 ⟨rfl, h2⟩; replace qr := qr.kept h2; replace qc := qc.kept h2; replace hb := below_then hb h2; clear h2 c0 c1 c2 c3 c4 c5 c6 c7 z0 z1 z2 o0 o1 o2; obtain ⟨c0, c1, c2, c3, c4, c5, c6, c7⟩ := qc.cfg; obtain ⟨z0, z1, z2⟩ := qr.c3; obtain ⟨o0, o1, o2⟩ := qr.o3))
  obtain ⟨W6, eW, q6, only, hz⟩ := set3 qr (.int .i64 0) (.int .i64 0) nilS
  rw [eW]
  refine bodyPost_ret (v := .tuple #[.agg #[.int .i64 0, .int .i64 0, nilS], .int .i64 21]) ?_ rfl ⟨rfl, Only.below hb (Nat.le_succ _) hb.size only⟩
  obtain ⟨y0, y1, y2⟩ := q6.c3
  simp [results, Try.results20, go_sem, y0, y1, y2]

set_option maxHeartbeats 8000000 in
set_option maxRecDepth 8000 in
theorem shape_yes (R S d h v u x t n : Int) (x0 : Addr) (ml N T c : Nat) (ws : List Int) (w : World) (hr : Reads .i8 w (some x0) T ws) (hc : T ≤ c) (hT : T = 4 * ml * N) (hml : ml ≤ 1000) (hl : T ≤ 100000) (hN : N ≤ 1000)
    (k32 : ∀ w, Calls Try.prog 32 #[.int .i64 R, .int .i64 S, .agg #[.int .i64 d, .int .i64 h, .int .i64 (ml : Int), .int .i64 v, .int .i64 u, .int .i64 x, .int .i64 t, .int .i64 n]] w fun e w' => e = .returned (.bool true) ∧ Below w.heap.size w w')
    (k45 : ∀ w, Calls Try.prog 45 #[.int .i64 R, .agg #[.int .i64 d, .int .i64 h, .int .i64 (ml : Int), .int .i64 v, .int .i64 u, .int .i64 x, .int .i64 t, .int .i64 n]] w fun e w' => e = .returned (.int .i64 (T : Int)) ∧ Below w.heap.size w w')
    (k34 : ∀ w, Calls Try.prog 34 #[.int .i64 R, .agg #[.int .i64 d, .int .i64 h, .int .i64 (ml : Int), .int .i64 v, .int .i64 u, .int .i64 x, .int .i64 t, .int .i64 n]] w fun e w' => e = .returned (.int .i64 (N : Int)) ∧ Below w.heap.size w w') :
    Calls Try.prog 20 #[.int .i64 R, .int .i64 S, .agg #[.int .i64 d, .int .i64 h, .int .i64 (ml : Int), .int .i64 v, .int .i64 u, .int .i64 x, .int .i64 t, .int .i64 n], .slice (some x0) T c] w fun e w' => ∃ (L : SL) (Y : Nat → Nat → SL), e = .returned (.tuple #[.agg #[.int .i64 R, .int .i64 S, .slice L.a L.n L.c], .int .i64 0]) ∧ NewA w.heap.size w' L Y (shapeV ml N ws) ∧ Below w.heap.size w w' := by
  obtain ⟨i0, hi, hz0, hz1, hz2⟩ := i62'
  have hb := below_new (below_new (Below.refl w.heap.size w) (.cells #[.int .i64 d, .int .i64 h, .int .i64 (ml : Int), .int .i64 v, .int .i64 u, .int .i64 x, .int .i64 t, .int .i64 n] 26)) (.cells #[.int .i64 0, .int .i64 0, nilS] 24)
  have qc : Blk 26 ((w.alloc (.cells #[.int .i64 d, .int .i64 h, .int .i64 (ml : Int), .int .i64 v, .int .i64 u, .int .i64 x, .int .i64 t, .int .i64 n] 26)).alloc (.cells #[.int .i64 0, .int .i64 0, nilS] 24)) w.heap.size #[.int .i64 d, .int .i64 h, .int .i64 (ml : Int), .int .i64 v, .int .i64 u, .int .i64 x, .int .i64 t, .int .i64 n] := (Blk.new 26 w _).kept (below_new (Below.refl _ _) _)
  have qr : Blk 24 ((w.alloc (.cells #[.int .i64 d, .int .i64 h, .int .i64 (ml : Int), .int .i64 v, .int .i64 u, .int .i64 x, .int .i64 t, .int .i64 n] 26)).alloc (.cells #[.int .i64 0, .int .i64 0, nilS] 24)) (w.heap.size + 1) #[.int .i64 0, .int .i64 0, nilS] := Blk.new_at 24 (w.alloc _) _ _ (by simp)
  obtain ⟨c0, c1, c2, c3, c4, c5, c6, c7⟩ := qc.cfg
  have mk := fun W => make_layers ml hml W
  have HR := hidden_ hr
  have HT := hidden_ hT
  have start : Left w ws T N 0 (.slice (some x0) T c) := ⟨x0, c, by rw [Nat.zero_mul, Nat.sub_zero], by rw [Nat.zero_mul, Nat.sub_zero, List.drop_zero]; exact hr, by omega⟩
  have HS := hidden_ start
  clear hr hT start
  go_enter Try.func20, Try.ntmps20
  go_wp2_with (first | (go_at_call 32; refine (k32 _).mono ?_; rintro e W1 ⟨rfl, h1⟩; replace qr := qr.kept h1; replace qc := qc.kept h1; replace hb := below_then hb h1; clear h1 c0 c1 c2 c3 c4 c5 c6 c7; obtain ⟨c0, c1, c2, c3, c4, c5, c6, c7⟩ := qc.cfg; obtain ⟨z0, z1, z2⟩ := qr.c3; obtain ⟨o0, o1, o2⟩ := qr.o3) | (go_at_call 45; refine (k45 _).mono ?_; rintro e W2 ⟨rfl, h2⟩; replace qr := qr.kept h2; replace qc := qc.kept h2; replace hb := below_then hb h2; clear h2 c0 c1 c2 c3 c4 c5 c6 c7 z0 z1 z2 o0 o1 o2; obtain ⟨c0, c1, c2, c3, c4, c5, c6, c7⟩ := qc.cfg; obtain ⟨z0, z1, z2⟩ := qr.c3; obtain ⟨o0, o1, o2⟩ := qr.o3; have qx := (qc.kept (below_new (Below.refl _ _) (.cells (madeCells fourth (ml * 4)) 52))).kept (below_new (Below.refl _ _) (.cells #[.int .i64 R, .int .i64 S, .slice (some ⟨W2.heap.size, 0, none⟩) ml ml] 24)); obtain ⟨e0, e1, e2, e3, e4, e5, e6, e7⟩ := qx.cfg; clear qx) | (go_at_call 34; refine (k34 _).mono ?_; rintro e W3 ⟨rfl, h3⟩; clear e0 e1 e2 e3 e4 e5 e6 e7; have sh : ShpI ⟨W2.heap.size, 0, none⟩ W2.heap.size W2.heap.size (W2.heap.size + 1) ml N 0 R S ws (fun _ => SL.nought) W3 := (shp_start ml N R S ws W2).below h3; have b3 : Below W2.heap.size W2 W3 := below_then (below_new (below_new (Below.refl _ _) _) _) h3; clear h3; obtain ⟨a0, a1, a2⟩ := sh.ad.c3))
  obtain ⟨LA, eLA⟩ : ∃ LA, (⟨W2.heap.size, 0, none⟩ : Addr) = LA := ⟨_, rfl⟩
  rw [eLA] at sh ⊢
  have HLA := hidden_ eLA
  clear eLA
  have HB := hidden_ (And.intro hb (And.intro qr (And.intro b3 sh)))
  have s2 := hb.size
  clear hb qc qr b3 sh c0 c1 c2 c3 c4 c5 c6 c7 z0 z1 z2 o0 o1 o2 k32 k45 k34 mk a0 a1 a2
  go_loopw [3, 40] (fun v3 i wr => ∃ k : Nat, k ≤ ml ∧ i = .int .i64 k ∧ Below W2.heap.size W2 wr ∧ Left w ws T N (4 * k) v3 ∧ ∃ Sx, ShpI LA W2.heap.size W2.heap.size (W2.heap.size + 1) ml N (4 * k) R S ws Sx wr) (fun _ i _ => ml - (intOf i).toNat)
  case atStart => exact ⟨0, Nat.zero_le _, rfl, HB.out.2.2.1, HS.out, _, HB.out.2.2.2⟩
  case round =>
    obtain ⟨k, hk, rfl, hbr, hL, Sx, hS⟩ := hrel
    by_cases hlt : k < ml
    · have hlt' : (k : Int) < (ml : Int) := by omega
      obtain ⟨a0, a1, a2⟩ := hS.ad.c3
      have ePk : LA.add (k * 4) = ⟨W2.heap.size, 4 * k, none⟩ := by rw [← HLA.out, add_at]; congr 1; omega
      obtain ⟨P, eP⟩ : ∃ P, LA.add (k * 4) = P := ⟨_, rfl⟩
      have PJ : Hid (∀ j, P.add j = ⟨W2.heap.size, 4 * k + j, none⟩) := fun j => by rw [← eP, ePk, add_at]
      have k33 := lists_call P
      have H1 := hidden_ (And.intro hbr (And.intro hL hS))
      clear hbr hL hS ePk
      go_wp2_with (first | (go_at_call 33; refine (k33 _).mono ?_; rintro e W4 ⟨rfl, h4⟩; have hbr := below_then H1.out.1 h4; have hL := H1.out.2.1; have hS := H1.out.2.2.below h4; clear h4 a0 a1 a2 H1))
      obtain ⟨i0', i1, i2, i3⟩ := index_all (.pointer (some P)) (.pointer (some ⟨P.block, P.off + 1, none⟩)) (.pointer (some ⟨P.block, P.off + 2, none⟩)) (.pointer (some ⟨P.block, P.off + 3, none⟩))
      have ix : Hid (∀ j, j < 4 → ∀ w : World, (Instr.index 58 (.agg #[.pointer (some P), .pointer (some ⟨P.block, P.off + 1, none⟩), .pointer (some ⟨P.block, P.off + 2, none⟩), .pointer (some ⟨P.block, P.off + 3, none⟩)]) (.int .i64 (j : Nat))).run Try.prog w = .ok (.pointer (some (P.add j))) w) := fun j hj => by
        rcases (show j = 0 ∨ j = 1 ∨ j = 2 ∨ j = 3 by omega) with rfl | rfl | rfl | rfl
        · exact i0'
        · exact i1
        · exact i2
        · exact i3
      clear i0' i1 i2 i3 k33 eP
      have H1 := hidden_ (And.intro hbr (And.intro hL hS))
      clear hbr hL hS
      go_loopw [3, 48] (fun v3 i wr => ∃ j : Nat, j ≤ 4 ∧ i = .int .i64 j ∧ Below W2.heap.size W2 wr ∧ Left w ws T N (4 * k + j) v3 ∧ ∃ Sx, ShpI LA W2.heap.size W2.heap.size (W2.heap.size + 1) ml N (4 * k + j) R S ws Sx wr) (fun _ i _ => 4 - (intOf i).toNat)
      case atStart => exact ⟨0, Nat.zero_le _, rfl, H1.out.1, H1.out.2.1, _, H1.out.2.2⟩
      case round =>
        clear H1
        obtain ⟨j, hj, rfl, hbr, ⟨y, cy, rfl, ry, lc⟩, Sx, hS⟩ := hrel
        by_cases hjt : j < 4
        · have hjt' : (j : Int) < 4 := by omega
          have ij := ix.out j hjt
          rw [PJ.out j] at ij
          obtain ⟨q, eq⟩ : ∃ q, 4 * k + j = q := ⟨_, rfl⟩
          have hq4 : q < 4 * ml := by omega
          have eqs : 4 * k + (j + 1) = q + 1 := by omega
          rw [eq] at ij ry lc hS ⊢
          have hqN : q * N + N ≤ T := by
            have := Nat.mul_le_mul_right N (show q + 1 ≤ 4 * ml by omega)
            rw [Nat.add_mul, Nat.one_mul] at this
            rw [HT.out]
            exact this
          have enn : T - (q + 1) * N = T - q * N - N := by rw [Nat.add_mul, Nat.one_mul]; omega
          have edr : ws.drop ((q + 1) * N) = (ws.drop (q * N)).drop N := by rw [List.drop_drop, Nat.add_mul, Nat.one_mul]
          have ry' := ry.below (below_then HB.out.1 hbr)
          have rt : Reads .i8 wr (some y) N (segA N ws q) := by have := ry'.cut 0 N (by omega); simpa [Addr.add, segA] using this
          obtain ⟨nn, en⟩ : ∃ nn, T - q * N = nn := ⟨_, rfl⟩
          rw [en] at ry lc enn ⊢
          have hNn : N ≤ nn := by omega
          have hNc : (N : Int) ≤ (cy : Int) := by omega
          have hNn' : (N : Int) ≤ (nn : Int) := by omega
          have n0 : (0 : Int) ≤ (N : Int) := by omega
          have hnn : nn ≤ 100000 := by omega
          obtain ⟨y', ey, yr⟩ : ∃ y' : Addr, (if cy = N then some y else some (y.add N)) = some y' ∧ Reads .i8 w (some y') (nn - N) ((ws.drop (q * N)).drop N) := by
            by_cases e : cy = N
            · refine ⟨y, by rw [if_pos e], ?_⟩
              have hl := ry.len
              rw [show nn - N = 0 by omega, List.drop_eq_nil_of_le (by omega)]
              exact ⟨rfl, by omega, fun i => by simpa using wf_nought .i8, fun h => by omega, fun _ _ i hi => by omega⟩
            · refine ⟨y.add N, by rw [if_neg e], ?_⟩
              have := ry.cut N (nn - N) (by omega)
              rwa [List.take_of_length_le (by rw [List.length_drop, ry.len]; omega)] at this
          have LQ : Hid (Left w ws T N (q + 1) (.slice (some y') (nn - N) (cy - N))) := by
            show Left w ws T N (q + 1) _
            refine ⟨y', cy - N, by rw [enn], by rw [enn, edr]; exact yr, by omega⟩
          have key : ∀ W1 (s : SL), Below wr.heap.size wr W1 → TS wr.heap.size W1 s (segA N ws q) → W1.cell? ⟨W2.heap.size, q, none⟩ = some nilS ∧ W1.frozen? ⟨W2.heap.size, q, none⟩ = false ∧ Hid (Below W2.heap.size W2 (W1.setCell ⟨W2.heap.size, q, none⟩ s.v) ∧ ∃ Sx, ShpI LA W2.heap.size W2.heap.size (W2.heap.size + 1) ml N (q + 1) R S ws Sx (W1.setCell ⟨W2.heap.size, q, none⟩ s.v)) := fun W1 s hb ts => by
            have h1 := hS.below hb
            obtain ⟨g1, g2⟩ := h1.cell hq4
            exact ⟨g1, g2, (below_then hbr hb).setCell (Nat.le_refl _) _, _, h1.put hq4 s (ts.le hbr.size)⟩
          have KEY := hidden_ key
          have HRT := hidden_ rt
          clear key rt ry ry' yr hS hbr enn edr en eq
          go_wp2_with (first
            | (at_builtin; refine wpList_copy rfl _ _ 33 rfl wr.heap.size 62 i0 (.int .i8 0) 1 Try.underlying33 hi hz0 hz1 hz2 rfl (.slice none 0 0) 0 [] rfl (World.ownsRow_nil _ _ _ _) .i8 (some y) N cy (segA N ws q) rfl HRT.out (by intro h; cases h) (by unfold maxLen; omega) (by omega) (Nat.le_refl _) ?_; intro v1 W5 ho hg; obtain ⟨s, rfl, ts, hb5⟩ := copied0 ho hg HRT.out; obtain ⟨g1, g2, g3⟩ := KEY.out W5 s hb5 ts; clear ho hg))
          go_roundw
          case rel => exact ⟨j + 1, by omega, by go_num, g3.out.1, by rw [eqs]; exact LQ.out, by rw [eqs]; exact g3.out.2⟩
          case measure => simp [intOf]; omega
        · have e : j = 4 := by omega
          subst e
          have HX := hidden_ hbr
          have hL : Left w ws T N (4 * (k + 1)) (.slice (some y) (T - (4 * k + 4) * N) cy) := ⟨y, cy, rfl, ry, lc⟩
          have HLL := hidden_ hL
          obtain ⟨nn, en⟩ : ∃ nn, T - (4 * k + 4) * N = nn := ⟨_, rfl⟩
          rw [en] at HLL ⊢
          clear hbr hL ry lc en
          go_wp2
          go_roundw
          case rel => exact ⟨k + 1, by omega, by go_num, HX.out, HLL.out, _, hS⟩
          case measure => simp [intOf]; omega
    · have e : k = ml := by omega
      subst e
      obtain ⟨a0, a1, a2⟩ := hS.ad.c3
      have nw := hS.done (Nat.le_refl _)
      have qr := HB.out.2.1.kept hbr
      have hb := below_then HB.out.1 hbr
      obtain ⟨z0, z1, z2⟩ := qr.c3
      obtain ⟨o0, o1, o2⟩ := qr.o3
      have lt2 := HB.out.2.1.lt
      clear hL hbr
      go_wp2
      obtain ⟨W6, eW, q6, only, hz⟩ := set3 qr (.int .i64 R) (.int .i64 S) (.slice (some LA) k k)
      rw [eW]
      refine bodyPost_ret (v := .tuple #[.agg #[.int .i64 R, .int .i64 S, .slice (some LA) k k], .int .i64 0]) ?_ rfl ⟨⟨some LA, k, k⟩, _, rfl, (nw.only only lt2).le (by omega), Only.below hb (Nat.le_succ _) hb.size only⟩
      obtain ⟨y0, y1, y2⟩ := q6.c3
      simp [results, Try.results20, go_sem, y0, y1, y2]

end Go.Proofs.Ytbmlafgolmmekaa

/- Check of any model; Shape of any configuration. -/
import Derived.Test.YtjbeloljbjfibaaRows
import Derived.Test.YtjbeloljbjfibaaLayer8
import Derived.Test.YtjbeloljbjfibaaConf
import Derived.Test.YtjbeloljbjfibaaBlank
import Derived.Test.YtjbeloljbjfibaaCfgRef
import Derived.Test.YtjbeloljbjfibaaSize
import Derived.Test.YtjbeloljbjfibaaSizes
import Derived.Test.YtjbeloljbjfibaaSteps
import Derived.Test.YtjbeloljbjfibaaClo54
import Derived.Test.YtjbeloljbjfibaaFill
import Derived.Test.YtjbeloljbjfibaaMods
import Derived.Test.YtjbeloljbjfibaaFills
import Derived.Test.YtjbeloljbjfibaaShape
import Derived.Test.YtjbeloljbjfibaaShapes
import Derived.Test.YtjbeloljbjfibaaCheck
import Derived.Test.YtjbeloljbjfibaaChecks
import Derived.WalkKit
import Derived.ProofKit
import Derived.OpenShut
import Derived.Below
import Derived.WalkLawsBesides
import Derived.Deep.QuietTactic
import Derived.BigQuiet
import Derived.Deep.RegionWith
import Derived.Deep.RegionHeld3
import Derived.Deep.OwnRows
namespace Go.Proofs.Ytjbeloljbjfibaa
open Go.ChangeShapes Go.WideShapes Go.ChangeAt Go.RowKit
set_option linter.unusedVariables false


/-- how many lists there are, and how long they are, by the configuration -/
def allT (l x : Int) : Nat := 1 + l.toNat * pl (netsN x) + 2
def cntOf (d l v u x : Int) : Nat → Nat := planC l.toNat (netsN x) d.toNat (d * d).toNat (x * d).toNat (u * d).toNat (v * d).toNat
def shapeV (d l v u x : Int) (ws : List Int) : ModV := ofSeq l.toNat (netsN x) (seg (cntOf d l v u x) ws)
def checkB (d h l v u x t n : Int) (m : ModV) : Int := if okB d h l v u x t n then (if framedB l x m then lensZ (seqOf m (netsN x)) (cntOf d l v u x) (allT l x) else 21) else 20

structure Dims (d l v u x : Int) : Prop where
  ed : d = (d.toNat : Int)
  el : l = (l.toNat : Int)
  e1 : v * d = ((v * d).toNat : Int)
  e2 : d * d = ((d * d).toNat : Int)
  e3 : x * d = ((x * d).toNat : Int)
  e4 : u * d = ((u * d).toNat : Int)
  en : max x 1 = (netsN x : Int)
  b0 : d.toNat ≤ 8
  b1 : (v * d).toNat ≤ 1000
  b2 : (d * d).toNat ≤ 1000
  b3 : (x * d).toNat ≤ 1000
  b4 : (u * d).toNat ≤ 1000
  l0 : 1 ≤ l.toNat
  l1 : l.toNat ≤ 2
  n0 : 1 ≤ netsN x
  n1 : netsN x ≤ 4
  d0 : 2 ≤ d.toNat
  sz : szZ d l v u x = (offs (cntOf d l v u x) (allT l x) : Int)
  sz0 : 0 < offs (cntOf d l v u x) (allT l x)
  sz1 : offs (cntOf d l v u x) (allT l x) ≤ 10000

theorem dims_of {d h l v u x t n : Int} (ok : okB d h l v u x t n = true) : Dims d l v u x := by
  have r := right_of ok
  obtain ⟨hx, n0, n1⟩ := r.nets
  have d0 := r.d0; have d1 := r.d1; have l0 := r.l0; have l1 := r.l1; have v0 := r.v0; have v1 := r.v1; have u0 := r.u0; have u1 := r.u1; have x0 := r.x0; have x1 := r.x1
  have p1 := mul_bounds (show 0 ≤ v by omega) v1 (show 0 ≤ d by omega) d1
  have p2 := mul_bounds (show 0 ≤ d by omega) d1 (show 0 ≤ d by omega) d1
  have p3 := mul_bounds x0 x1 (show 0 ≤ d by omega) d1
  have p4 := mul_bounds (show 0 ≤ u by omega) u1 (show 0 ≤ d by omega) d1
  have pb := per_bounds r
  have pl' := mul_bounds (show 0 ≤ l by omega) l1 pb.1 pb.2
  have sz : szZ d l v u x = (offs (cntOf d l v u x) (allT l x) : Int) := by
    unfold cntOf allT
    rw [offs_all]
    unfold szZ perN perZ
    rw [Int.natCast_add, Int.natCast_add, Int.natCast_add, Int.natCast_mul, Int.toNat_of_nonneg p1.1, Int.toNat_of_nonneg (show 0 ≤ d by omega), Int.toNat_of_nonneg (show 0 ≤ l by omega)]
    congr 3
    rw [Int.natCast_add, Int.natCast_add, Int.natCast_add, Int.natCast_add, Int.natCast_add, Int.natCast_add, Int.natCast_add, Int.natCast_mul, Int.natCast_add, Int.toNat_of_nonneg p2.1, Int.toNat_of_nonneg (show 0 ≤ d by omega), Int.toNat_of_nonneg p3.1, Int.toNat_of_nonneg p4.1]
  have hs : 0 < szZ d l v u x ∧ szZ d l v u x ≤ 10000 := by unfold szZ; omega
  exact ⟨by omega, by omega, by omega, by omega, by omega, by omega, hx, by omega, by omega, by omega, by omega, by omega, by omega, by omega, n0, n1, by omega, sz, by omega, by omega⟩

theorem framed_call (d h l v u x t n : Int) (E L N O : SL) (Y U D : Nat → Nat → SL) (m : ModV) (w : World) (hM : ModAt w E L N O Y U D m) (hl0 : 1 ≤ l) (hl1 : l ≤ 1000) :
    Calls Try.prog 43 #[.agg #[.int .i64 d, .int .i64 h, .int .i64 l, .int .i64 v, .int .i64 u, .int .i64 x, .int .i64 t, .int .i64 n, .slice E.a E.n E.c, .slice L.a L.n L.c, .slice N.a N.n N.c, .slice O.a O.n O.c]] w fun e w' => e = .returned (.bool (framedB l x m)) ∧ Below w.heap.size w w' := by
  have len := hM.len
  by_cases g : (m.ln : Int) = l
  · obtain ⟨x0, hx0⟩ := hM.some_ (by omega)
    rw [hx0]
    refine framed_loop d h v u x t n E L N O Y U D m w hM L.n L.c x0 rfl rfl hx0 (by omega) (max x 1) (framedB l x m) (fun i hi hx => ?_) (fun k => ?_) l (by rw [len]; simp [g]) (networks_call d h l v u x t n)
    · exact decide_eq_false fun k => by have := k.2 i (by omega); omega
    · exact decide_eq_true ⟨g, fun i hi => k i (by omega)⟩
  · have e : framedB l x m = false := decide_eq_false fun k => g k.1
    rw [e]
    obtain ⟨La, eA⟩ : ∃ q, L.a = q := ⟨_, rfl⟩
    obtain ⟨ml, eL⟩ : ∃ q, L.n = q := ⟨_, rfl⟩
    obtain ⟨Lc, eC⟩ : ∃ q, L.c = q := ⟨_, rfl⟩
    have hb := below_new (Below.refl w.heap.size w) (.cells #[.int .i64 d, .int .i64 h, .int .i64 l, .int .i64 v, .int .i64 u, .int .i64 x, .int .i64 t, .int .i64 n, .slice E.a E.n E.c, .slice La ml Lc, .slice N.a N.n N.c, .slice O.a O.n O.c] 29)
    rw [eA, eL, eC]
    have g' : ((ml : Int) == l) = false := by rw [← eL, len]; simp [g]
    clear g e len eA eL eC hM
    go_enter Try.func43, Try.ntmps43
    go_wp2
    go_ret
    exact ⟨rfl, hb⟩

set_option maxHeartbeats 1000000 in
theorem check_walk (d h l v u x t n : Int) (E N O : SL) (La : Option Addr) (ml Lc : Nat) (B1 B2 : Bool) (Z : Int) (w : World)
    (k9 : ∀ w, Calls Try.prog 9 #[.agg #[.int .i64 d, .int .i64 h, .int .i64 l, .int .i64 v, .int .i64 u, .int .i64 x, .int .i64 t, .int .i64 n]] w fun e w' => e = .returned (.bool B1) ∧ Below w.heap.size w w')
    (k43 : B1 = true → ∀ W, Below w.heap.size w W → Calls Try.prog 43 #[.agg #[.int .i64 d, .int .i64 h, .int .i64 l, .int .i64 v, .int .i64 u, .int .i64 x, .int .i64 t, .int .i64 n, .slice E.a E.n E.c, .slice La ml Lc, .slice N.a N.n N.c, .slice O.a O.n O.c]] W fun e w' => e = .returned (.bool B2) ∧ Below W.heap.size W w')
    (k32 : B1 = true → B2 = true → ∀ W2 : World, Below w.heap.size w W2 → Blk 29 W2 w.heap.size #[.int .i64 d, .int .i64 h, .int .i64 l, .int .i64 v, .int .i64 u, .int .i64 x, .int .i64 t, .int .i64 n, .slice E.a E.n E.c, .slice La ml Lc, .slice N.a N.n N.c, .slice O.a O.n O.c] → w.heap.size < W2.heap.size →
      Calls Try.prog 32 #[.pointer (some ⟨w.heap.size, 0, none⟩), .func (.func 44) #[] #[.pointer (some ⟨W2.heap.size, 0, none⟩)]] (W2.alloc (.cells #[.int .i64 0] 31)) fun e w' => e = .returned (.tuple #[]) ∧ Blk 31 w' W2.heap.size #[.int .i64 Z] ∧ Only W2.heap.size (W2.alloc (.cells #[.int .i64 0] 31)) w') :
    Calls Try.prog 16 #[.agg #[.int .i64 d, .int .i64 h, .int .i64 l, .int .i64 v, .int .i64 u, .int .i64 x, .int .i64 t, .int .i64 n, .slice E.a E.n E.c, .slice La ml Lc, .slice N.a N.n N.c, .slice O.a O.n O.c]] w fun e w' => e = .returned (.int .i64 (if B1 then (if B2 then Z else 21) else 20)) ∧ Below w.heap.size w w' := by
  have hb := below_new (Below.refl w.heap.size w) (.cells #[.int .i64 d, .int .i64 h, .int .i64 l, .int .i64 v, .int .i64 u, .int .i64 x, .int .i64 t, .int .i64 n, .slice E.a E.n E.c, .slice La ml Lc, .slice N.a N.n N.c, .slice O.a O.n O.c] 29)
  have q0 := Blk.new 29 w #[.int .i64 d, .int .i64 h, .int .i64 l, .int .i64 v, .int .i64 u, .int .i64 x, .int .i64 t, .int .i64 n, .slice E.a E.n E.c, .slice La ml Lc, .slice N.a N.n N.c, .slice O.a O.n O.c]
  have HQ := hidden_ q0
  clear q0
  cases B1 with
  | false =>
    clear k43 k32
    show Calls Try.prog 16 _ w fun e w' => e = .returned (.int .i64 20) ∧ _
    go_enter Try.func16, Try.ntmps16
    go_wp2_with (first | (go_at_call 9; refine (k9 _).mono ?_; rintro e W1 ⟨rfl, h1⟩; replace hb := below_then hb h1; clear h1))
    go_ret
    exact ⟨rfl, hb⟩
  | true =>
    replace k43 := k43 rfl
    cases B2 with
    | false =>
      clear k32
      show Calls Try.prog 16 _ w fun e w' => e = .returned (.int .i64 21) ∧ _
      go_enter Try.func16, Try.ntmps16
      go_wp2_with (first
        | (go_at_call 9; refine (k9 _).mono ?_; rintro e W1 ⟨rfl, h1⟩; replace hb := below_then hb h1; have q1 := HQ.out.kept h1; obtain ⟨a0, a1, a2, a3, a4, a5, a6, a7, a8, a9, a10, a11⟩ := q1.c12; clear h1)
        | (go_at_call 43; refine (k43 _ hb).mono ?_; rintro e W2 ⟨rfl, h2⟩; replace hb := below_then hb h2; clear h2))
      go_ret
      exact ⟨rfl, hb⟩
    | true =>
      replace k32 := k32 rfl rfl
      show Calls Try.prog 16 _ w fun e w' => e = .returned (.int .i64 Z) ∧ _
      go_enter Try.func16, Try.ntmps16
      go_wp2_with (first
        | (go_at_call 9; refine (k9 _).mono ?_; rintro e W1 ⟨rfl, h1⟩; replace hb := below_then hb h1; have q1 := HQ.out.kept h1; obtain ⟨a0, a1, a2, a3, a4, a5, a6, a7, a8, a9, a10, a11⟩ := q1.c12; clear h1)
        | (go_at_call 43; refine (k43 _ hb).mono ?_; rintro e W2 ⟨rfl, h2⟩; replace hb := below_then hb h2; replace q1 := q1.kept h2; clear h2 a0 a1 a2 a3 a4 a5 a6 a7 a8 a9 a10 a11)
        | (go_at_call 32; refine (k32 _ hb q1 q1.lt).mono ?_; rintro e W3 ⟨rfl, q3, o3⟩; have c3 := q3.cell 0 rfl))
      go_ret
      refine ⟨rfl, ?_⟩
      have := hb.size
      exact Only.below (below_new hb _) this (by simp; omega) o3

theorem check_call (d h l v u x t n : Int) (E L N O : SL) (Y U D : Nat → Nat → SL) (m : ModV) (w : World) (hM : ModAt w E L N O Y U D m) :
    Calls Try.prog 16 #[.agg #[.int .i64 d, .int .i64 h, .int .i64 l, .int .i64 v, .int .i64 u, .int .i64 x, .int .i64 t, .int .i64 n, .slice E.a E.n E.c, .slice L.a L.n L.c, .slice N.a N.n N.c, .slice O.a O.n O.c]] w fun e w' => e = .returned (.int .i64 (checkB d h l v u x t n m)) ∧ Below w.heap.size w w' := by
  refine check_walk d h l v u x t n E N O L.a L.n L.c (okB d h l v u x t n) (framedB l x m) (lensZ (seqOf m (netsN x)) (cntOf d l v u x) (allT l x)) w (config_call d h l v u x t n) (fun ok W hb => ?_) (fun ok fr W2 hb q hlt => ?_)
  · have r := right_of ok
    exact framed_call d h l v u x t n E L N O Y U D m W (hM.below hb) r.l0 (by have := r.l1; omega)
  · have dm := dims_of ok
    have fr' := of_decide_eq_true fr
    have dl := dm.el
    have hln : m.ln = l.toNat := by have := fr'.1; omega
    obtain ⟨x0, hx0⟩ := hM.some_ (by have := dm.l0; omega)
    have b4 := below_new (Below.refl W2.heap.size W2) (.cells #[.int .i64 0] 31)
    have key := check_visit h v u x t n l.toNat (netsN x) d.toNat (d * d).toNat (x * d).toNat (u * d).toNat (v * d).toNat w.heap.size W2.heap.size L.c x0 E L N O Y U D m (by rw [← dm.ed]; exact dm.e1) (by rw [← dm.ed]; exact dm.e2) (by rw [← dm.ed]; exact dm.e3) (by rw [← dm.ed]; exact dm.e4)
      (by have := dm.b0; omega) dm.b1 dm.b2 dm.b3 dm.b4 (by have := dm.l1; omega) dm.n1 dm.n0 (W2.alloc (.cells #[.int .i64 0] 31)) w hM (below_then hb b4) (by rw [hx0, hM.len, hln] at q; rw [← dm.ed, ← dm.el]; exact q.kept b4) (Blk.new 31 W2 _) (by omega) (by omega) hx0 hln
      (fun i hi => by have := fr'.2 i (by omega); rw [dm.en] at this; omega)
    exact key

end Go.Proofs.Ytjbeloljbjfibaa

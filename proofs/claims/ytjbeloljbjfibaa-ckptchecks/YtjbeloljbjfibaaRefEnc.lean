/- The document's Encode, given its Check and its Flat. -/
import Derived.Test.YtjbeloljbjfibaaRows
import Derived.Test.YtjbeloljbjfibaaLayer8
import Derived.Test.YtjbeloljbjfibaaConf
import Derived.Test.YtjbeloljbjfibaaBlank
import Derived.Test.YtjbeloljbjfibaaCfgRef
import Derived.Test.YtjbeloljbjfibaaSize
import Derived.Test.YtjbeloljbjfibaaSizes
import Derived.Test.YtjbeloljbjfibaaSteps
import Derived.Test.YtjbeloljbjfibaaClo54
import Derived.Test.YtjbeloljbjfibaaFill
import Derived.Test.YtjbeloljbjfibaaMods
import Derived.Test.YtjbeloljbjfibaaFills
import Derived.Test.YtjbeloljbjfibaaShape
import Derived.Test.YtjbeloljbjfibaaShapes
import Derived.Test.YtjbeloljbjfibaaCheck
import Derived.Test.YtjbeloljbjfibaaChecks
import Derived.Test.YtjbeloljbjfibaaDims
import Derived.Test.YtjbeloljbjfibaaFlat
import Derived.Test.YtjbeloljbjfibaaNumbers
import Derived.Test.YtjbeloljbjfibaaPrefix
import Derived.Test.YtjbeloljbjfibaaBody
import Derived.Test.YtjbeloljbjfibaaDecode
import Derived.Test.YtjbeloljbjfibaaTrips
import Derived.WalkKit
import Derived.ProofKit
import Derived.OpenShut
import Derived.Below
import Derived.WalkLawsBesides
import Derived.Deep.QuietTactic
import Derived.BigQuiet
import Derived.Deep.RegionWith
import Derived.Deep.RegionHeld3
import Derived.Deep.OwnRows
namespace Go.Proofs.Ytjbeloljbjfibaa
open Go.ChangeShapes Go.WideShapes Go.ChangeAt Go.RowKit
set_option linter.unusedVariables false


theorem refNumbers_call (d h l v u x t n : Int) (w : World) : Calls Try.prog 39 #[.agg #[.int .i64 d, .int .i64 h, .int .i64 l, .int .i64 v, .int .i64 u, .int .i64 x, .int .i64 t, .int .i64 n]] w fun e w' => ∃ c, e = .returned (.slice (some ⟨w.heap.size + 1, 0, none⟩) 8 c) ∧ Below w.heap.size w w' ∧ Blk 3 w' (w.heap.size + 1) #[.int .i64 d, .int .i64 h, .int .i64 l, .int .i64 v, .int .i64 u, .int .i64 x, .int .i64 t, .int .i64 n] := by
  go_enter Try.func39, Try.ntmps39
  go_wp2
  go_ret
  exact ⟨_, rfl, below_new (below_new (Below.refl _ w) _) _, Blk.new_at 3 (w.alloc _) _ _ (by simp)⟩

set_option maxHeartbeats 2000000 in
theorem refEncode_no (d h l v u x t n : Int) (E N O : SL) (La : Option Addr) (ml Lc : Nat) (Z : Int) (hZ : (Z == 0) = false) (w : World)
    (k17 : ∀ W, Below w.heap.size w W → Calls Try.prog 17 #[.agg #[.int .i64 d, .int .i64 h, .int .i64 l, .int .i64 v, .int .i64 u, .int .i64 x, .int .i64 t, .int .i64 n, .slice E.a E.n E.c, .slice La ml Lc, .slice N.a N.n N.c, .slice O.a O.n O.c]] W fun e w' => e = .returned (.int .i64 Z) ∧ Below W.heap.size W w') :
    Calls Try.prog 15 #[.agg #[.int .i64 d, .int .i64 h, .int .i64 l, .int .i64 v, .int .i64 u, .int .i64 x, .int .i64 t, .int .i64 n, .slice E.a E.n E.c, .slice La ml Lc, .slice N.a N.n N.c, .slice O.a O.n O.c]] w fun e w' => e = .returned (.tuple #[.string ⟨#[]⟩, .int .i64 Z]) ∧ Below w.heap.size w w' := by
  have hb := below_new (Below.refl w.heap.size w) (.cells #[.int .i64 d, .int .i64 h, .int .i64 l, .int .i64 v, .int .i64 u, .int .i64 x, .int .i64 t, .int .i64 n, .slice E.a E.n E.c, .slice La ml Lc, .slice N.a N.n N.c, .slice O.a O.n O.c] 29)
  go_enter Try.func15, Try.ntmps15
  go_wp2_with (first | (go_at_call 17; refine (k17 _ hb).mono ?_; rintro e W1 ⟨rfl, h1⟩; replace hb := below_then hb h1; clear h1))
  go_ret2
  exact ⟨rfl, hb⟩

set_option maxHeartbeats 4000000 in
set_option maxRecDepth 20000 in
theorem refEncode_yes (d h l v u x t n : Int) (E N O : SL) (La : Option Addr) (ml Lc : Nat) (w : World) (zs : List Int) (Sd Sh Sl Sv Su Sx St Sn SW SE : ByteArray) (kd : ∀ w, Calls Try.prog 40 #[.int .i64 d] w fun e w' => e = .returned (.string Sd) ∧ Below w.heap.size w w') (zd : Sd.size = 2) (kh : ∀ w, Calls Try.prog 40 #[.int .i64 h] w fun e w' => e = .returned (.string Sh) ∧ Below w.heap.size w w') (zh : Sh.size = 2) (kl : ∀ w, Calls Try.prog 40 #[.int .i64 l] w fun e w' => e = .returned (.string Sl) ∧ Below w.heap.size w w') (zl : Sl.size = 2) (kv : ∀ w, Calls Try.prog 40 #[.int .i64 v] w fun e w' => e = .returned (.string Sv) ∧ Below w.heap.size w w') (zv : Sv.size = 2) (ku : ∀ w, Calls Try.prog 40 #[.int .i64 u] w fun e w' => e = .returned (.string Su) ∧ Below w.heap.size w w') (zu : Su.size = 2) (kx : ∀ w, Calls Try.prog 40 #[.int .i64 x] w fun e w' => e = .returned (.string Sx) ∧ Below w.heap.size w w') (zx : Sx.size = 2) (kt : ∀ w, Calls Try.prog 40 #[.int .i64 t] w fun e w' => e = .returned (.string St) ∧ Below w.heap.size w w') (zt : St.size = 2) (kn : ∀ w, Calls Try.prog 40 #[.int .i64 n] w fun e w' => e = .returned (.string Sn) ∧ Below w.heap.size w w') (zn : Sn.size = 2)
    (k17 : ∀ W, Below w.heap.size w W → Calls Try.prog 17 #[.agg #[.int .i64 d, .int .i64 h, .int .i64 l, .int .i64 v, .int .i64 u, .int .i64 x, .int .i64 t, .int .i64 n, .slice E.a E.n E.c, .slice La ml Lc, .slice N.a N.n N.c, .slice O.a O.n O.c]] W fun e w' => e = .returned (.int .i64 0) ∧ Below W.heap.size W w')
    (k20 : ∀ W, Below w.heap.size w W → Calls Try.prog 20 #[.agg #[.int .i64 d, .int .i64 h, .int .i64 l, .int .i64 v, .int .i64 u, .int .i64 x, .int .i64 t, .int .i64 n, .slice E.a E.n E.c, .slice La ml Lc, .slice N.a N.n N.c, .slice O.a O.n O.c]] W fun e w' => ∃ s : SL, e = .returned (.slice s.a s.n s.c) ∧ IsS w' s zs ∧ Below W.heap.size W w')
    (k42 : ∀ W (s : SL), IsS W s zs → Calls Try.prog 42 #[.slice s.a s.n s.c] W fun e w' => e = .returned (.string SW) ∧ Below W.heap.size W w') (zW : SW.size ≤ 100000)
    (k41 : ∀ W, Calls Try.prog 41 #[.string (⟨#[65, 86]⟩ ++ Sd ++ Sh ++ Sl ++ Sv ++ Su ++ Sx ++ St ++ Sn ++ SW)] W fun e w' => e = .returned (.string SE) ∧ Below W.heap.size W w') :
    Calls Try.prog 15 #[.agg #[.int .i64 d, .int .i64 h, .int .i64 l, .int .i64 v, .int .i64 u, .int .i64 x, .int .i64 t, .int .i64 n, .slice E.a E.n E.c, .slice La ml Lc, .slice N.a N.n N.c, .slice O.a O.n O.c]] w fun e w' => e = .returned (.tuple #[.string SE, .int .i64 0]) ∧ Below w.heap.size w w' := by
  have hb := below_new (Below.refl w.heap.size w) (.cells #[.int .i64 d, .int .i64 h, .int .i64 l, .int .i64 v, .int .i64 u, .int .i64 x, .int .i64 t, .int .i64 n, .slice E.a E.n E.c, .slice La ml Lc, .slice N.a N.n N.c, .slice O.a O.n O.c] 29)
  have q0 := Blk.new 29 w #[.int .i64 d, .int .i64 h, .int .i64 l, .int .i64 v, .int .i64 u, .int .i64 x, .int .i64 t, .int .i64 n, .slice E.a E.n E.c, .slice La ml Lc, .slice N.a N.n N.c, .slice O.a O.n O.c]
  have HQ := hidden_ q0
  have k39 := refNumbers_call d h l v u x t n
  clear q0
  go_enter Try.func15, Try.ntmps15
  go_wp2_with (first
    | (go_at_call 17; refine (k17 _ hb).mono ?_; rintro e W1 ⟨rfl, h1⟩; replace hb := below_then hb h1; have q1 := HQ.out.kept h1; obtain ⟨a0, a1, a2, a3, a4, a5, a6, a7, a8, a9, a10, a11⟩ := q1.c12; clear h1)
    | (go_at_call 39; refine (k39 _).mono ?_; rintro e W2 ⟨nc, rfl, h1, qn⟩; replace hb := below_then hb h1; replace q1 := q1.kept h1; clear h1 a0 a1 a2 a3 a4 a5 a6 a7 a8 a9 a10 a11; obtain ⟨c0, c1, c2, c3, c4, c5, c6, c7⟩ := qn.cfg))
  obtain ⟨nb, enb⟩ : ∃ nb, W1.heap.size + 1 = nb := ⟨_, rfl⟩
  rw [enb] at qn c0 c1 c2 c3 c4 c5 c6 c7 ⊢
  clear enb
  refine wp_loop_rounds 9 ?_
  iterate 8
    rw [rounds_succ]
    go_wp2_with (first
        | (go_at_call_of 40 d; refine (kd _).mono ?_; rintro e W1 ⟨rfl, h1⟩; replace q1 := q1.kept h1; replace qn := qn.kept h1; replace hb := below_then hb h1; clear h1 c0 c1 c2 c3 c4 c5 c6 c7; obtain ⟨c0, c1, c2, c3, c4, c5, c6, c7⟩ := qn.cfg)
        | (go_at_call_of 40 h; refine (kh _).mono ?_; rintro e W1 ⟨rfl, h1⟩; replace q1 := q1.kept h1; replace qn := qn.kept h1; replace hb := below_then hb h1; clear h1 c0 c1 c2 c3 c4 c5 c6 c7; obtain ⟨c0, c1, c2, c3, c4, c5, c6, c7⟩ := qn.cfg)
        | (go_at_call_of 40 l; refine (kl _).mono ?_; rintro e W1 ⟨rfl, h1⟩; replace q1 := q1.kept h1; replace qn := qn.kept h1; replace hb := below_then hb h1; clear h1 c0 c1 c2 c3 c4 c5 c6 c7; obtain ⟨c0, c1, c2, c3, c4, c5, c6, c7⟩ := qn.cfg)
        | (go_at_call_of 40 v; refine (kv _).mono ?_; rintro e W1 ⟨rfl, h1⟩; replace q1 := q1.kept h1; replace qn := qn.kept h1; replace hb := below_then hb h1; clear h1 c0 c1 c2 c3 c4 c5 c6 c7; obtain ⟨c0, c1, c2, c3, c4, c5, c6, c7⟩ := qn.cfg)
        | (go_at_call_of 40 u; refine (ku _).mono ?_; rintro e W1 ⟨rfl, h1⟩; replace q1 := q1.kept h1; replace qn := qn.kept h1; replace hb := below_then hb h1; clear h1 c0 c1 c2 c3 c4 c5 c6 c7; obtain ⟨c0, c1, c2, c3, c4, c5, c6, c7⟩ := qn.cfg)
        | (go_at_call_of 40 x; refine (kx _).mono ?_; rintro e W1 ⟨rfl, h1⟩; replace q1 := q1.kept h1; replace qn := qn.kept h1; replace hb := below_then hb h1; clear h1 c0 c1 c2 c3 c4 c5 c6 c7; obtain ⟨c0, c1, c2, c3, c4, c5, c6, c7⟩ := qn.cfg)
        | (go_at_call_of 40 t; refine (kt _).mono ?_; rintro e W1 ⟨rfl, h1⟩; replace q1 := q1.kept h1; replace qn := qn.kept h1; replace hb := below_then hb h1; clear h1 c0 c1 c2 c3 c4 c5 c6 c7; obtain ⟨c0, c1, c2, c3, c4, c5, c6, c7⟩ := qn.cfg)
        | (go_at_call_of 40 n; refine (kn _).mono ?_; rintro e W1 ⟨rfl, h1⟩; replace q1 := q1.kept h1; replace qn := qn.kept h1; replace hb := below_then hb h1; clear h1 c0 c1 c2 c3 c4 c5 c6 c7; obtain ⟨c0, c1, c2, c3, c4, c5, c6, c7⟩ := qn.cfg))
  obtain ⟨a0, a1, a2, a3, a4, a5, a6, a7, a8, a9, a10, a11⟩ := q1.c12
  rw [rounds_succ]
  go_wp2_with (first
    | (go_at_call 20; refine (k20 _ hb).mono ?_; rintro e W1 ⟨s, rfl, hs, h1⟩; replace hb := below_then hb h1; clear h1)
    | (go_at_call 42; refine (k42 _ s hs).mono ?_; rintro e W1 ⟨rfl, h1⟩; replace hb := below_then hb h1; clear h1)
    | (go_at_call 41; refine (k41 _).mono ?_; rintro e W1 ⟨rfl, h1⟩; replace hb := below_then hb h1; clear h1))
  go_ret2
  exact ⟨rfl, hb⟩

end Go.Proofs.Ytjbeloljbjfibaa

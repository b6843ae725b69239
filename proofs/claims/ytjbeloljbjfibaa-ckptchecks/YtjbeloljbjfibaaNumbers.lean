/- A configuration's numbers by their places, and the model's bytes. -/
import Derived.Test.YtjbeloljbjfibaaRows
import Derived.Test.YtjbeloljbjfibaaLayer8
import Derived.Test.YtjbeloljbjfibaaConf
import Derived.Test.YtjbeloljbjfibaaBlank
import Derived.Test.YtjbeloljbjfibaaCfgRef
import Derived.Test.YtjbeloljbjfibaaSize
import Derived.Test.YtjbeloljbjfibaaSizes
import Derived.Test.YtjbeloljbjfibaaSteps
import Derived.Test.YtjbeloljbjfibaaClo54
import Derived.Test.YtjbeloljbjfibaaFill
import Derived.Test.YtjbeloljbjfibaaMods
import Derived.Test.YtjbeloljbjfibaaFills
import Derived.Test.YtjbeloljbjfibaaShape
import Derived.Test.YtjbeloljbjfibaaCheck
import Derived.Test.YtjbeloljbjfibaaChecks
import Derived.Test.YtjbeloljbjfibaaDims
import Derived.Test.YtjbeloljbjfibaaFlat
import Derived.WalkKit
import Derived.ProofKit
import Derived.OpenShut
import Derived.Below
import Derived.WalkLawsBesides
import Derived.Deep.QuietTactic
import Derived.BigQuiet
import Derived.Deep.RegionWith
import Derived.Deep.RegionHeld3
import Derived.Deep.OwnRows
namespace Go.Proofs.Ytjbeloljbjfibaa
open Go.ChangeShapes Go.WideShapes Go.ChangeAt Go.RowKit
set_option linter.unusedVariables false


theorem info60 : (Try.prog.info? 60).map (fun i => (i.zero, i.size, i.bytes)) = some (some (.pointer none), 1, 8) := by kernel_rfl

theorem index_all (b : Nat) : (∀ w : World, (Instr.index 61 (.agg #[.pointer (some ⟨b, 0, none⟩), .pointer (some ⟨b, 1, none⟩), .pointer (some ⟨b, 2, none⟩), .pointer (some ⟨b, 3, none⟩), .pointer (some ⟨b, 4, none⟩), .pointer (some ⟨b, 5, none⟩), .pointer (some ⟨b, 6, none⟩), .pointer (some ⟨b, 7, none⟩)]) (.int .i64 0)).run Try.prog w = .ok (.pointer (some ⟨b, 0, none⟩)) w) ∧ (∀ w : World, (Instr.index 61 (.agg #[.pointer (some ⟨b, 0, none⟩), .pointer (some ⟨b, 1, none⟩), .pointer (some ⟨b, 2, none⟩), .pointer (some ⟨b, 3, none⟩), .pointer (some ⟨b, 4, none⟩), .pointer (some ⟨b, 5, none⟩), .pointer (some ⟨b, 6, none⟩), .pointer (some ⟨b, 7, none⟩)]) (.int .i64 1)).run Try.prog w = .ok (.pointer (some ⟨b, 1, none⟩)) w) ∧ (∀ w : World, (Instr.index 61 (.agg #[.pointer (some ⟨b, 0, none⟩), .pointer (some ⟨b, 1, none⟩), .pointer (some ⟨b, 2, none⟩), .pointer (some ⟨b, 3, none⟩), .pointer (some ⟨b, 4, none⟩), .pointer (some ⟨b, 5, none⟩), .pointer (some ⟨b, 6, none⟩), .pointer (some ⟨b, 7, none⟩)]) (.int .i64 2)).run Try.prog w = .ok (.pointer (some ⟨b, 2, none⟩)) w) ∧ (∀ w : World, (Instr.index 61 (.agg #[.pointer (some ⟨b, 0, none⟩), .pointer (some ⟨b, 1, none⟩), .pointer (some ⟨b, 2, none⟩), .pointer (some ⟨b, 3, none⟩), .pointer (some ⟨b, 4, none⟩), .pointer (some ⟨b, 5, none⟩), .pointer (some ⟨b, 6, none⟩), .pointer (some ⟨b, 7, none⟩)]) (.int .i64 3)).run Try.prog w = .ok (.pointer (some ⟨b, 3, none⟩)) w) ∧ (∀ w : World, (Instr.index 61 (.agg #[.pointer (some ⟨b, 0, none⟩), .pointer (some ⟨b, 1, none⟩), .pointer (some ⟨b, 2, none⟩), .pointer (some ⟨b, 3, none⟩), .pointer (some ⟨b, 4, none⟩), .pointer (some ⟨b, 5, none⟩), .pointer (some ⟨b, 6, none⟩), .pointer (some ⟨b, 7, none⟩)]) (.int .i64 4)).run Try.prog w = .ok (.pointer (some ⟨b, 4, none⟩)) w) ∧ (∀ w : World, (Instr.index 61 (.agg #[.pointer (some ⟨b, 0, none⟩), .pointer (some ⟨b, 1, none⟩), .pointer (some ⟨b, 2, none⟩), .pointer (some ⟨b, 3, none⟩), .pointer (some ⟨b, 4, none⟩), .pointer (some ⟨b, 5, none⟩), .pointer (some ⟨b, 6, none⟩), .pointer (some ⟨b, 7, none⟩)]) (.int .i64 5)).run Try.prog w = .ok (.pointer (some ⟨b, 5, none⟩)) w) ∧ (∀ w : World, (Instr.index 61 (.agg #[.pointer (some ⟨b, 0, none⟩), .pointer (some ⟨b, 1, none⟩), .pointer (some ⟨b, 2, none⟩), .pointer (some ⟨b, 3, none⟩), .pointer (some ⟨b, 4, none⟩), .pointer (some ⟨b, 5, none⟩), .pointer (some ⟨b, 6, none⟩), .pointer (some ⟨b, 7, none⟩)]) (.int .i64 6)).run Try.prog w = .ok (.pointer (some ⟨b, 6, none⟩)) w) ∧ (∀ w : World, (Instr.index 61 (.agg #[.pointer (some ⟨b, 0, none⟩), .pointer (some ⟨b, 1, none⟩), .pointer (some ⟨b, 2, none⟩), .pointer (some ⟨b, 3, none⟩), .pointer (some ⟨b, 4, none⟩), .pointer (some ⟨b, 5, none⟩), .pointer (some ⟨b, 6, none⟩), .pointer (some ⟨b, 7, none⟩)]) (.int .i64 7)).run Try.prog w = .ok (.pointer (some ⟨b, 7, none⟩)) w) := by
  obtain ⟨i, hi, hzz⟩ := Option.map_eq_some_iff.1 info60
  simp only [Prod.mk.injEq] at hzz
  refine ⟨?_, ?_, ?_, ?_, ?_, ?_, ?_, ?_⟩ <;> intro w <;> simp [Instr.index, run_underlying Try.underlying61, asIntOf, go_sem, typeInfo, sizeOf, hi, hzz.2.1]

set_option maxHeartbeats 2000000 in
theorem numbers_call (b : Nat) (w : World) : Calls Try.prog 35 #[.pointer (some ⟨b, 0, none⟩)] w fun e w' => e = .returned (.agg #[.pointer (some ⟨b, 0, none⟩), .pointer (some ⟨b, 1, none⟩), .pointer (some ⟨b, 2, none⟩), .pointer (some ⟨b, 3, none⟩), .pointer (some ⟨b, 4, none⟩), .pointer (some ⟨b, 5, none⟩), .pointer (some ⟨b, 6, none⟩), .pointer (some ⟨b, 7, none⟩)]) ∧ Below w.heap.size w w' := by
  go_enter Try.func35, Try.ntmps35
  go_wp2
  go_region_held3 (fun W => True) (trivial) (first | fail)
  go_wp2
  refine bodyPost_ret (v := .agg #[.pointer (some ⟨b, 0, none⟩), .pointer (some ⟨b, 1, none⟩), .pointer (some ⟨b, 2, none⟩), .pointer (some ⟨b, 3, none⟩), .pointer (some ⟨b, 4, none⟩), .pointer (some ⟨b, 5, none⟩), .pointer (some ⟨b, 6, none⟩), .pointer (some ⟨b, 7, none⟩)]) ?_ rfl ⟨rfl, below_drew (below_new (Below.refl _ w) _) ⟨1, rfl⟩⟩
  simp [results, Try.results35, go_sem]


/-- what stands ahead of the weights in a model's bytes -/
def headS (d h l v u x t n : Int) : ByteArray := ⟨#[65, 86]⟩ ++ two d ++ two h ++ two l ++ two v ++ two u ++ two x ++ two t ++ two n

theorem headS_size (d h l v u x t n : Int) : (headS d h l v u x t n).size = 18 := by
  unfold headS
  simp only [ByteArray.size_append, two_size]
  rfl

set_option maxHeartbeats 2000000 in
theorem encode_no (d h l v u x t n : Int) (E N O : SL) (La : Option Addr) (ml Lc : Nat) (Z : Int) (hZ : (Z == 0) = false) (w : World)
    (k16 : ∀ W, Below w.heap.size w W → Calls Try.prog 16 #[.agg #[.int .i64 d, .int .i64 h, .int .i64 l, .int .i64 v, .int .i64 u, .int .i64 x, .int .i64 t, .int .i64 n, .slice E.a E.n E.c, .slice La ml Lc, .slice N.a N.n N.c, .slice O.a O.n O.c]] W fun e w' => e = .returned (.int .i64 Z) ∧ Below W.heap.size W w') :
    Calls Try.prog 14 #[.agg #[.int .i64 d, .int .i64 h, .int .i64 l, .int .i64 v, .int .i64 u, .int .i64 x, .int .i64 t, .int .i64 n, .slice E.a E.n E.c, .slice La ml Lc, .slice N.a N.n N.c, .slice O.a O.n O.c]] w fun e w' => e = .returned (.tuple #[.string ⟨#[]⟩, .int .i64 Z]) ∧ Below w.heap.size w w' := by
  have hb := below_new (Below.refl w.heap.size w) (.cells #[.int .i64 d, .int .i64 h, .int .i64 l, .int .i64 v, .int .i64 u, .int .i64 x, .int .i64 t, .int .i64 n, .slice E.a E.n E.c, .slice La ml Lc, .slice N.a N.n N.c, .slice O.a O.n O.c] 29)
  go_enter Try.func14, Try.ntmps14
  go_wp2_with (first | (go_at_call 16; refine (k16 _ hb).mono ?_; rintro e W1 ⟨rfl, h1⟩; replace hb := below_then hb h1; clear h1))
  go_ret2
  exact ⟨rfl, hb⟩

set_option maxHeartbeats 4000000 in
set_option maxRecDepth 20000 in
theorem encode_yes (d h l v u x t n : Int) (E N O : SL) (La : Option Addr) (ml Lc : Nat) (w : World) (zs : List Int) (Sd Sh Sl Sv Su Sx St Sn SW SE : ByteArray) (kd : ∀ w, Calls Try.prog 36 #[.int .i64 d] w fun e w' => e = .returned (.string Sd) ∧ ∃ o, w' = w.alloc o) (zd : Sd.size = 2) (kh : ∀ w, Calls Try.prog 36 #[.int .i64 h] w fun e w' => e = .returned (.string Sh) ∧ ∃ o, w' = w.alloc o) (zh : Sh.size = 2) (kl : ∀ w, Calls Try.prog 36 #[.int .i64 l] w fun e w' => e = .returned (.string Sl) ∧ ∃ o, w' = w.alloc o) (zl : Sl.size = 2) (kv : ∀ w, Calls Try.prog 36 #[.int .i64 v] w fun e w' => e = .returned (.string Sv) ∧ ∃ o, w' = w.alloc o) (zv : Sv.size = 2) (ku : ∀ w, Calls Try.prog 36 #[.int .i64 u] w fun e w' => e = .returned (.string Su) ∧ ∃ o, w' = w.alloc o) (zu : Su.size = 2) (kx : ∀ w, Calls Try.prog 36 #[.int .i64 x] w fun e w' => e = .returned (.string Sx) ∧ ∃ o, w' = w.alloc o) (zx : Sx.size = 2) (kt : ∀ w, Calls Try.prog 36 #[.int .i64 t] w fun e w' => e = .returned (.string St) ∧ ∃ o, w' = w.alloc o) (zt : St.size = 2) (kn : ∀ w, Calls Try.prog 36 #[.int .i64 n] w fun e w' => e = .returned (.string Sn) ∧ ∃ o, w' = w.alloc o) (zn : Sn.size = 2)
    (k16 : ∀ W, Below w.heap.size w W → Calls Try.prog 16 #[.agg #[.int .i64 d, .int .i64 h, .int .i64 l, .int .i64 v, .int .i64 u, .int .i64 x, .int .i64 t, .int .i64 n, .slice E.a E.n E.c, .slice La ml Lc, .slice N.a N.n N.c, .slice O.a O.n O.c]] W fun e w' => e = .returned (.int .i64 0) ∧ Below W.heap.size W w')
    (k19 : ∀ W, Below w.heap.size w W → Calls Try.prog 19 #[.agg #[.int .i64 d, .int .i64 h, .int .i64 l, .int .i64 v, .int .i64 u, .int .i64 x, .int .i64 t, .int .i64 n, .slice E.a E.n E.c, .slice La ml Lc, .slice N.a N.n N.c, .slice O.a O.n O.c]] W fun e w' => ∃ s : SL, e = .returned (.slice s.a s.n s.c) ∧ IsS w' s zs ∧ Below W.heap.size W w')
    (k38 : ∀ W (s : SL), IsS W s zs → Calls Try.prog 38 #[.slice s.a s.n s.c] W fun e w' => e = .returned (.string SW) ∧ Below W.heap.size W w') (zW : SW.size ≤ 100000)
    (k37 : ∀ W, Calls Try.prog 37 #[.string (⟨#[65, 86]⟩ ++ Sd ++ Sh ++ Sl ++ Sv ++ Su ++ Sx ++ St ++ Sn ++ SW)] W fun e w' => e = .returned (.string SE) ∧ ∃ o, w' = W.alloc o) :
    Calls Try.prog 14 #[.agg #[.int .i64 d, .int .i64 h, .int .i64 l, .int .i64 v, .int .i64 u, .int .i64 x, .int .i64 t, .int .i64 n, .slice E.a E.n E.c, .slice La ml Lc, .slice N.a N.n N.c, .slice O.a O.n O.c]] w fun e w' => e = .returned (.tuple #[.string SE, .int .i64 0]) ∧ Below w.heap.size w w' := by
  have hb := below_new (Below.refl w.heap.size w) (.cells #[.int .i64 d, .int .i64 h, .int .i64 l, .int .i64 v, .int .i64 u, .int .i64 x, .int .i64 t, .int .i64 n, .slice E.a E.n E.c, .slice La ml Lc, .slice N.a N.n N.c, .slice O.a O.n O.c] 29)
  have q0 := Blk.new 29 w #[.int .i64 d, .int .i64 h, .int .i64 l, .int .i64 v, .int .i64 u, .int .i64 x, .int .i64 t, .int .i64 n, .slice E.a E.n E.c, .slice La ml Lc, .slice N.a N.n N.c, .slice O.a O.n O.c]
  have HQ := hidden_ q0
  have k35 := numbers_call w.heap.size
  clear q0
  go_enter Try.func14, Try.ntmps14
  go_wp2_with (first
    | (go_at_call 16; refine (k16 _ hb).mono ?_; rintro e W1 ⟨rfl, h1⟩; replace hb := below_then hb h1; have q1 := HQ.out.kept h1; clear h1)
    | (go_at_call 35; refine (k35 _).mono ?_; rintro e W1 ⟨rfl, h1⟩; replace hb := below_then hb h1; replace q1 := q1.kept h1; obtain ⟨a0, a1, a2, a3, a4, a5, a6, a7, a8, a9, a10, a11⟩ := q1.c12; clear h1))
  obtain ⟨i0, i1, i2, i3, i4, i5, i6, i7⟩ := index_all w.heap.size
  refine wp_loop_rounds 9 ?_
  iterate 9
    rw [rounds_succ]
    go_wp2_with (first
        | (go_at_call_of 36 d; refine (kd _).mono ?_; rintro e W1 ⟨rfl, h1⟩; replace h1 := below_one h1; replace q1 := q1.kept h1; replace hb := below_then hb h1; clear h1 a0 a1 a2 a3 a4 a5 a6 a7 a8 a9 a10 a11; obtain ⟨a0, a1, a2, a3, a4, a5, a6, a7, a8, a9, a10, a11⟩ := q1.c12)
        | (go_at_call_of 36 h; refine (kh _).mono ?_; rintro e W1 ⟨rfl, h1⟩; replace h1 := below_one h1; replace q1 := q1.kept h1; replace hb := below_then hb h1; clear h1 a0 a1 a2 a3 a4 a5 a6 a7 a8 a9 a10 a11; obtain ⟨a0, a1, a2, a3, a4, a5, a6, a7, a8, a9, a10, a11⟩ := q1.c12)
        | (go_at_call_of 36 l; refine (kl _).mono ?_; rintro e W1 ⟨rfl, h1⟩; replace h1 := below_one h1; replace q1 := q1.kept h1; replace hb := below_then hb h1; clear h1 a0 a1 a2 a3 a4 a5 a6 a7 a8 a9 a10 a11; obtain ⟨a0, a1, a2, a3, a4, a5, a6, a7, a8, a9, a10, a11⟩ := q1.c12)
        | (go_at_call_of 36 v; refine (kv _).mono ?_; rintro e W1 ⟨rfl, h1⟩; replace h1 := below_one h1; replace q1 := q1.kept h1; replace hb := below_then hb h1; clear h1 a0 a1 a2 a3 a4 a5 a6 a7 a8 a9 a10 a11; obtain ⟨a0, a1, a2, a3, a4, a5, a6, a7, a8, a9, a10, a11⟩ := q1.c12)
        | (go_at_call_of 36 u; refine (ku _).mono ?_; rintro e W1 ⟨rfl, h1⟩; replace h1 := below_one h1; replace q1 := q1.kept h1; replace hb := below_then hb h1; clear h1 a0 a1 a2 a3 a4 a5 a6 a7 a8 a9 a10 a11; obtain ⟨a0, a1, a2, a3, a4, a5, a6, a7, a8, a9, a10, a11⟩ := q1.c12)
        | (go_at_call_of 36 x; refine (kx _).mono ?_; rintro e W1 ⟨rfl, h1⟩; replace h1 := below_one h1; replace q1 := q1.kept h1; replace hb := below_then hb h1; clear h1 a0 a1 a2 a3 a4 a5 a6 a7 a8 a9 a10 a11; obtain ⟨a0, a1, a2, a3, a4, a5, a6, a7, a8, a9, a10, a11⟩ := q1.c12)
        | (go_at_call_of 36 t; refine (kt _).mono ?_; rintro e W1 ⟨rfl, h1⟩; replace h1 := below_one h1; replace q1 := q1.kept h1; replace hb := below_then hb h1; clear h1 a0 a1 a2 a3 a4 a5 a6 a7 a8 a9 a10 a11; obtain ⟨a0, a1, a2, a3, a4, a5, a6, a7, a8, a9, a10, a11⟩ := q1.c12)
        | (go_at_call_of 36 n; refine (kn _).mono ?_; rintro e W1 ⟨rfl, h1⟩; replace h1 := below_one h1; replace q1 := q1.kept h1; replace hb := below_then hb h1; clear h1 a0 a1 a2 a3 a4 a5 a6 a7 a8 a9 a10 a11; obtain ⟨a0, a1, a2, a3, a4, a5, a6, a7, a8, a9, a10, a11⟩ := q1.c12))
  go_wp2_with (first
    | (go_at_call 19; refine (k19 _ hb).mono ?_; rintro e W1 ⟨s, rfl, hs, h1⟩; replace hb := below_then hb h1; clear h1)
    | (go_at_call 38; refine (k38 _ s hs).mono ?_; rintro e W1 ⟨rfl, h1⟩; replace hb := below_then hb h1; clear h1)
    | (go_at_call 37; refine (k37 _).mono ?_; rintro e W1 ⟨rfl, h1⟩; replace hb := below_then hb (below_one h1); clear h1))
  go_ret2
  exact ⟨rfl, hb⟩

/-- a model's bytes -/
def encS (d h l v u x t n : Int) (zs : List Int) : ByteArray := sealS (headS d h l v u x t n ++ wtsS zs)
def encV (d h l v u x t n : Int) (m : ModV) : ByteArray := if checkB d h l v u x t n m = 0 then encS d h l v u x t n (flatV x l m) else ⟨#[]⟩

theorem wtsS_size (zs : List Int) : (wtsS zs).size = 2 + min zs.length 65535 := by
  unfold wtsS
  rw [ByteArray.size_append, two_size, wtsB_size]

theorem encode_call (d h l v u x t n : Int) (E L N O : SL) (Y U D : Nat → Nat → SL) (m : ModV) (w : World) (hM : ModAt w E L N O Y U D m) :
    Calls Try.prog 14 #[.agg #[.int .i64 d, .int .i64 h, .int .i64 l, .int .i64 v, .int .i64 u, .int .i64 x, .int .i64 t, .int .i64 n, .slice E.a E.n E.c, .slice L.a L.n L.c, .slice N.a N.n N.c, .slice O.a O.n O.c]] w fun e w' => e = .returned (.tuple #[.string (encV d h l v u x t n m), .int .i64 (checkB d h l v u x t n m)]) ∧ Below w.heap.size w w' := by
  have k16 := fun W hb => check_call d h l v u x t n E L N O Y U D m W (hM.below (w' := W) hb)
  unfold encV
  by_cases hz : checkB d h l v u x t n m = 0
  · rw [if_pos hz, hz]
    obtain ⟨ok, _, _, _⟩ := checked hz
    have r := right_of ok
    have dm := dims_of ok
    have fl := flat_length hz
    simp only [hz] at k16
    have k19 := fun W hb => flat_call d h l v u x t n E L N O Y U D m W (hM.below (w' := W) hb)
    simp only [hz, if_true] at k19
    have sw := wtsS_size (flatV x l m)
    have hs := headS_size d h l v u x t n
    exact encode_yes d h l v u x t n E N O L.a L.n L.c w (flatV x l m) _ _ _ _ _ _ _ _ _ _ (fun w => two_call d w (wf_i64 (by have := r.d0; omega) (by have := r.d1; omega))) (two_size _) (fun w => two_call h w (wf_i64 (by have := r.h0; omega) (by have := r.h1; omega))) (two_size _)
      (fun w => two_call l w (wf_i64 (by have := r.l0; omega) (by have := r.l1; omega))) (two_size _) (fun w => two_call v w (wf_i64 (by have := r.v0; omega) (by have := r.v1; omega))) (two_size _) (fun w => two_call u w (wf_i64 (by have := r.u0; omega) (by have := r.u1; omega))) (two_size _)
      (fun w => two_call x w (wf_i64 (by have := r.x0; omega) (by have := r.x1; omega))) (two_size _) (fun w => two_call t w (wf_i64 (by have := r.t0; omega) (by have := r.t1; omega))) (two_size _) (fun w => two_call n w (wf_i64 (by have := r.n0; omega) (by have := r.n1; omega))) (two_size _)
      k16 k19 (fun W s hs => weights_call s.a s.n s.c _ W hs.reads hs.cap) (by omega) (fun W => seal_call _ W (by rw [ByteArray.size_append]; show (headS d h l v u x t n).size + _ ≤ _; omega))
  · rw [if_neg hz]
    exact encode_no d h l v u x t n E N O L.a L.n L.c _ (by simp [hz]) w k16

end Go.Proofs.Ytjbeloljbjfibaa

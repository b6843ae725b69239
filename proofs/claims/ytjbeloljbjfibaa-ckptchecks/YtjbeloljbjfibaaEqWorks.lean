/- Texts put together: StEq, Works9. -/
import Derived.Test.YtjbeloljbjfibaaRows
import Derived.Test.YtjbeloljbjfibaaLayer8
import Derived.WalkKit
import Derived.ProofKit
import Derived.OpenShut
import Derived.Below
import Derived.Laws.StructEq
import Derived.Test.YtjbeloljbjfibaaConf
import Derived.Test.YtjbeloljbjfibaaBlank
import Derived.Test.YtjbeloljbjfibaaCfgRef
import Derived.Test.YtjbeloljbjfibaaSize
import Derived.Test.YtjbeloljbjfibaaSizes
import Derived.Test.YtjbeloljbjfibaaSteps
import Derived.Test.YtjbeloljbjfibaaClo54
import Derived.Test.YtjbeloljbjfibaaFill
import Derived.Test.YtjbeloljbjfibaaMods
import Derived.Test.YtjbeloljbjfibaaFills
import Derived.Test.YtjbeloljbjfibaaShape
import Derived.Test.YtjbeloljbjfibaaShapes
import Derived.Test.YtjbeloljbjfibaaCheck
import Derived.Test.YtjbeloljbjfibaaChecks
import Derived.Test.YtjbeloljbjfibaaDims
import Derived.Test.YtjbeloljbjfibaaFlat
import Derived.Test.YtjbeloljbjfibaaNumbers
import Derived.Test.YtjbeloljbjfibaaPrefix
import Derived.Test.YtjbeloljbjfibaaBody
import Derived.Test.YtjbeloljbjfibaaDecode
import Derived.Test.YtjbeloljbjfibaaTrips
import Derived.WalkLawsBesides
import Derived.Deep.QuietTactic
import Derived.BigQuiet
import Derived.Deep.RegionWith
import Derived.Deep.RegionHeld3
import Derived.Deep.OwnRows
import Derived.Lib.QuietBelow
namespace Go.Proofs.Ytjbeloljbjfibaa

/- Two configurations are held against each other. -/
section
open Go.ChangeShapes Go.WideShapes Go.ChangeAt Go.RowKit
set_option linter.unusedVariables false

theorem fields23 : Try.prog.underlying 23 = some (.struct (Try.prog.fieldsOf 23)) := by kernel_rfl
theorem held23 : Try.prog.stoodInHeld 23 = false := by kernel_rfl
theorem guard23 : Try.prog.eqGuardType Try.prog.depth 23 = false := by kernel_rfl
theorem list23 : (Try.prog.fieldsOf 23).toList.map (fun f => (f.name, f.type, f.offset)) = [("Dim", 3, 0), ("Heads", 3, 1), ("Layers", 3, 2), ("Vocab", 3, 3), ("Hidden", 3, 4), ("Experts", 3, 5), ("TopK", 3, 6), ("Window", 3, 7)] := by kernel_rfl

theorem info3' : (Try.prog.info? 3).map (fun i => (i.zero, i.size, i.bytes)) = some (some (.int .i64 0), 1, 8) := by kernel_rfl

theorem eqFields_same (k : Nat) (cs : Array Value) (w : World) (l : List Field) (h : ∀ f ∈ l, f.type = 3 ∧ ∃ z : Int, (part 3 cs f.offset).run Try.prog w = .ok (.int .i64 z) w) :
    (Op.eqFields (k + 1) cs cs l).run Try.prog w = .ok true w := by
  induction l with
  | nil => simp [Op.eqFields]
  | cons f l ih =>
    obtain ⟨ht, z, hz⟩ := h f (by simp)
    have := ih fun g hg => h g (by simp [hg])
    simp only [Op.eqFields, Sem.run_ite, Sem.run_bind, ht, hz, Result.andThen_ok, run_equalIn_int w k 3 .i64 .i64 z z Try.underlying3, beq_self_eq_true]
    simp [this]

theorem cfg_same (d h l v u x t n : Int) (w : World) : (binOp .eql 23 (.agg #[.int .i64 d, .int .i64 h, .int .i64 l, .int .i64 v, .int .i64 u, .int .i64 x, .int .i64 t, .int .i64 n]) (.agg #[.int .i64 d, .int .i64 h, .int .i64 l, .int .i64 v, .int .i64 u, .int .i64 x, .int .i64 t, .int .i64 n])).run Try.prog w = .ok (.bool true) w := by
  rw [run_eql_struct, run_equalIn_struct w 9999 23 _ _ fields23 held23, eqFields_same]
  · rfl
  · intro f hf
    have := List.mem_map_of_mem (f := fun f => (f.name, f.type, f.offset)) hf
    rw [list23] at this
    simp only [List.mem_cons, List.not_mem_nil, or_false, Prod.mk.injEq] at this
    obtain ⟨i, hi, hzz⟩ := Option.map_eq_some_iff.1 info3'
    simp only [Prod.mk.injEq] at hzz
    rcases this with ⟨_, h1, h2⟩ | ⟨_, h1, h2⟩ | ⟨_, h1, h2⟩ | ⟨_, h1, h2⟩ | ⟨_, h1, h2⟩ | ⟨_, h1, h2⟩ | ⟨_, h1, h2⟩ | ⟨_, h1, h2⟩ <;>
      exact ⟨h1, _, by rw [h2]; simp [part, go_sem, typeInfo, sizeOf, hi, hzz.2.1]; rfl⟩

theorem cfg_neq (d h l v u x t n : Int) (w : World) : (binOp .neq 23 (.agg #[.int .i64 d, .int .i64 h, .int .i64 l, .int .i64 v, .int .i64 u, .int .i64 x, .int .i64 t, .int .i64 n]) (.agg #[.int .i64 d, .int .i64 h, .int .i64 l, .int .i64 v, .int .i64 u, .int .i64 x, .int .i64 t, .int .i64 n])).run Try.prog w = .ok (.bool false) w := by
  have e := cfg_same d h l v u x t n w
  rw [run_eql_struct] at e
  rw [run_neq_struct]
  generalize (Op.equalIn 10000 23 (.agg #[.int .i64 d, .int .i64 h, .int .i64 l, .int .i64 v, .int .i64 u, .int .i64 x, .int .i64 t, .int .i64 n]) (.agg #[.int .i64 d, .int .i64 h, .int .i64 l, .int .i64 v, .int .i64 u, .int .i64 x, .int .i64 t, .int .i64 n])).run Try.prog w = r at e ⊢
  cases r with
  | ok b w' =>
    simp [Result.andThen] at e ⊢
    exact e
  | halt _ _ => simp [Result.andThen] at e
end

/- The example that the statements ask for first: it comes out as it should. -/
section
open Go.ChangeShapes Go.WideShapes Go.ChangeAt Go.RowKit Go.Sort
set_option linter.unusedVariables false


theorem small_call (w : World) : Calls Try.prog 56 #[] w fun e w' => e = .returned (.agg #[.int .i64 2, .int .i64 1, .int .i64 1, .int .i64 2, .int .i64 1, .int .i64 0, .int .i64 0, .int .i64 0]) ∧ Below w.heap.size w w' := by
  go_enter Try.func56, Try.ntmps56
  go_wp2
  refine bodyPost_ret (v := .agg #[.int .i64 2, .int .i64 1, .int .i64 1, .int .i64 2, .int .i64 1, .int .i64 0, .int .i64 0, .int .i64 0]) ?_ rfl ⟨rfl, below_new (Below.refl _ w) _⟩
  simp [results, Try.results56, go_sem]

def noughts : List Int := List.replicate 34 0

theorem made_reads (W : World) : Reads .i8 (W.alloc (.cells (madeCells #[.int .i8 0] 34) 46)) (some ⟨W.heap.size, 0, none⟩) 34 noughts := by
  have r := World.rowIs_made W (.int .i8 0) 34 46
  refine Reads.of_row (by simp [noughts]) (by omega) (fun z hz => by rw [List.eq_of_mem_replicate hz]; decide) fun i hi => ?_
  rw [at_add, r.cell hi]
  congr 2
  unfold noughts
  rw [List.getD, List.getElem?_replicate, if_pos hi]
  rfl

theorem make_noughts (w : World) : (Instr.makeSlice 26 (.int .i64 34) (.int .i64 34)).run Try.prog w = .ok (.slice (some ⟨w.heap.size, 0, none⟩) 34 34) (w.alloc (.cells (madeCells #[.int .i8 0] 34) 46)) :=
  run_make_row' 26 46 (.int .i8 0) 1 Try.underlying26 info46 rfl .i64 .i64 34 (by omega) (by omega) w

theorem small_ok : okB 2 1 1 2 1 0 0 0 = true := by decide
theorem small_size : offs (cntOf 2 1 2 1 0) (allT 1 0) = 34 := by decide

theorem noughts_wf : ∀ z ∈ noughts, (Lit.int .i8 z).wf = true := fun z hz => by rw [List.eq_of_mem_replicate hz]; decide
theorem small_len : noughts.length = offs (cntOf 2 1 2 1 0) (allT 1 0) := by rw [small_size]; rfl

theorem made_of {W : World} {g : Nat} (h : Blk 46 W g (madeCells #[.int .i8 0] 34)) : Reads .i8 W (some ⟨g, 0, none⟩) 34 noughts := by
  refine Reads.of_row (by simp [noughts]) (by omega) (fun z hz => by rw [List.eq_of_mem_replicate hz]; decide) fun i hi => ?_
  rw [at_add, h.cell i (v := .int .i8 0) (by simp [madeCells, hi, Nat.mod_one])]
  congr 2
  unfold noughts
  rw [List.getD, List.getElem?_replicate, if_pos hi]
  rfl

theorem blk_lt {t : TypeId} {w : World} {b : Nat} {cs : Array Value} (h : Blk t w b cs) (o : Obj) : Blk t (w.alloc o) b cs := h.kept (below_new (Below.refl _ _) o)

theorem keepM {t : TypeId} {q : Nat} {cs : Array Value} {X W3 : World} {E L N O : SL} {Y U D : Nat → Nat → SL} {m : ModV} (qx : Blk t X q cs) (hM : NewM X.heap.size W3 E L N O Y U D m) (h3 : Below X.heap.size X W3) :
    Blk t W3 q cs ∧ ∀ W6, Only q W3 W6 → ModAt W6 E L N O Y U D m := ⟨qx.kept h3, fun W6 o => (hM.only o qx.lt).at_⟩

set_option maxHeartbeats 16000000 in
theorem works_call (w : World) : Calls Try.prog 26 #[] w fun e w' => e = .returned (.bool true) ∧ Below w.heap.size w w' := by
  have k56 := small_call
  have k24 := fun W xa (rd : Reads .i8 W (some xa) 34 noughts) => shape_good 2 1 1 2 1 0 0 0 small_ok xa 34 34 noughts W rd (Nat.le_refl _) (by decide)
  have mk := make_noughts
  have kk := dec_enc small_ok noughts small_len noughts_wf
  have es := enc_size 2 1 1 2 1 0 0 0 noughts
  have k14 : ∀ (E L N O : SL) (Y U D : Nat → Nat → SL) (W : World), ModAt W E L N O Y U D (shapeV 2 1 2 1 0 noughts) → Calls Try.prog 14 #[.agg #[.int .i64 2, .int .i64 1, .int .i64 1, .int .i64 2, .int .i64 1, .int .i64 0, .int .i64 0, .int .i64 0, .slice E.a E.n E.c, .slice L.a L.n L.c, .slice N.a N.n N.c, .slice O.a O.n O.c]] W fun e w' => e = .returned (.tuple #[.string (encS 2 1 1 2 1 0 0 0 noughts), .int .i64 0]) ∧ Below W.heap.size W w' := fun E L N O Y U D W hM => by
    have := encode_call 2 1 1 2 1 0 0 0 E L N O Y U D _ W hM
    have c := shape_checked small_ok noughts small_len
    unfold encV at this
    rw [c, if_pos rfl, shape_flat noughts small_len] at this
    exact this
  obtain ⟨S, eS⟩ : ∃ S, encS 2 1 1 2 1 0 0 0 noughts = S := ⟨_, rfl⟩
  rw [eS] at kk es
  simp only [eS] at k14
  clear eS
  obtain ⟨d0, d1, d2, d3, d4, d5, d6, d7, d8, d9⟩ := kk
  have sS : S.size = 56 := es
  have k22 : ∀ W, Calls Try.prog 22 #[.string S] W fun e w' => ∃ E L N O : SL, ∃ Y U D', e = .returned (.tuple #[.agg #[.int .i64 2, .int .i64 1, .int .i64 1, .int .i64 2, .int .i64 1, .int .i64 0, .int .i64 0, .int .i64 0, .slice E.a E.n E.c, .slice L.a L.n L.c, .slice N.a N.n N.c, .slice O.a O.n O.c], .int .i64 0]) ∧ NewM W.heap.size w' E L N O Y U D' (shapeV 2 1 2 1 0 noughts) ∧ Below W.heap.size W w' := fun W => by
    have := decode_call S W (by omega)
    rw [d1, d2, d3, d4, d5, d6, d7, d8, d9] at this
    have e : decE S = 0 := by unfold decE; rw [d0]; rfl
    rw [e] at this
    exact this
  have k11 := size_call 2 1 1 2 1 0 0 0
  have ez : sizeB 2 1 1 2 1 0 0 0 = 34 := by decide
  simp only [ez] at k11
  have seq := cfg_same 2 1 1 2 1 0 0 0
  have oo : (shapeV 2 1 2 1 0 noughts).o.length = 4 := by decide
  clear d0 d1 d2 d3 d4 d5 d6 d7 d8 d9 es ez
  have hb : Below w.heap.size w w := Below.refl _ _
  go_enter Try.func26, Try.ntmps26
  go_wp2
  go_region_held3 (fun W => True) (trivial) (first
    | (go_at_call 56; refine (k56 _).mono ?_; rintro e W1 ⟨rfl, h1⟩
       (first | have bm : Blk 46 W1 (w.heap.size) (madeCells #[.int .i8 0] 34) := Blk.kept (w := (w.alloc (.cells (madeCells #[.int .i8 0] 34) 46)).drew) (Blk.new_at 46 w (madeCells #[.int .i8 0] 34) _ rfl) h1 | have bm : Blk 46 W1 (w.heap.size) (madeCells #[.int .i8 0] 34) := Blk.kept (w := ((w.alloc (.cells (madeCells #[.int .i8 0] 34) 46)).alloc (.cells #[.int .i64 0, .int .i64 0, .int .i64 0, .int .i64 0, .int .i64 0, .int .i64 0, .int .i64 0, .int .i64 0, nilS, nilS, nilS, nilS] 29)).drew) (blk_lt (Blk.new_at 46 w (madeCells #[.int .i8 0] 34) _ rfl) _) h1 | have bm : Blk 46 W1 (w.heap.size + 1) (madeCells #[.int .i8 0] 34) := Blk.kept (w := ((w.alloc (.cells #[.int .i64 0, .int .i64 0, .int .i64 0, .int .i64 0, .int .i64 0, .int .i64 0, .int .i64 0, .int .i64 0, nilS, nilS, nilS, nilS] 29)).alloc (.cells (madeCells #[.int .i8 0] 34) 46)).drew) (Blk.new_at 46 (w.alloc (.cells #[.int .i64 0, .int .i64 0, .int .i64 0, .int .i64 0, .int .i64 0, .int .i64 0, .int .i64 0, .int .i64 0, nilS, nilS, nilS, nilS] 29)) (madeCells #[.int .i8 0] 34) _ (World.size_alloc _ _).symm) h1 | skip)
       (first | have qz : Blk 29 W1 (w.heap.size) #[.int .i64 0, .int .i64 0, .int .i64 0, .int .i64 0, .int .i64 0, .int .i64 0, .int .i64 0, .int .i64 0, nilS, nilS, nilS, nilS] := Blk.kept (w := (w.alloc (.cells #[.int .i64 0, .int .i64 0, .int .i64 0, .int .i64 0, .int .i64 0, .int .i64 0, .int .i64 0, .int .i64 0, nilS, nilS, nilS, nilS] 29)).drew) (Blk.new_at 29 w #[.int .i64 0, .int .i64 0, .int .i64 0, .int .i64 0, .int .i64 0, .int .i64 0, .int .i64 0, .int .i64 0, nilS, nilS, nilS, nilS] _ rfl) h1 | have qz : Blk 29 W1 (w.heap.size) #[.int .i64 0, .int .i64 0, .int .i64 0, .int .i64 0, .int .i64 0, .int .i64 0, .int .i64 0, .int .i64 0, nilS, nilS, nilS, nilS] := Blk.kept (w := ((w.alloc (.cells #[.int .i64 0, .int .i64 0, .int .i64 0, .int .i64 0, .int .i64 0, .int .i64 0, .int .i64 0, .int .i64 0, nilS, nilS, nilS, nilS] 29)).alloc (.cells (madeCells #[.int .i8 0] 34) 46)).drew) (blk_lt (Blk.new_at 29 w #[.int .i64 0, .int .i64 0, .int .i64 0, .int .i64 0, .int .i64 0, .int .i64 0, .int .i64 0, .int .i64 0, nilS, nilS, nilS, nilS] _ rfl) _) h1 | have qz : Blk 29 W1 (w.heap.size + 1) #[.int .i64 0, .int .i64 0, .int .i64 0, .int .i64 0, .int .i64 0, .int .i64 0, .int .i64 0, .int .i64 0, nilS, nilS, nilS, nilS] := Blk.kept (w := ((w.alloc (.cells (madeCells #[.int .i8 0] 34) 46)).alloc (.cells #[.int .i64 0, .int .i64 0, .int .i64 0, .int .i64 0, .int .i64 0, .int .i64 0, .int .i64 0, .int .i64 0, nilS, nilS, nilS, nilS] 29)).drew) (Blk.new_at 29 (w.alloc (.cells (madeCells #[.int .i8 0] 34) 46)) #[.int .i64 0, .int .i64 0, .int .i64 0, .int .i64 0, .int .i64 0, .int .i64 0, .int .i64 0, .int .i64 0, nilS, nilS, nilS, nilS] _ (World.size_alloc _ _).symm) h1 | skip)
       replace hb := below_then (by first | exact hb | exact below_new hb _ | exact below_new (below_new hb _) _ | exact below_drew hb ⟨1, rfl⟩ | exact below_drew (below_new hb _) ⟨1, rfl⟩ | exact below_drew (below_new (below_new hb _) _) ⟨1, rfl⟩) h1
       have s1 := hb.size
       clear h1)
    | (go_at_call 24; refine (k24 _ _ (made_of (by first | exact bm | exact blk_lt bm _ | exact Blk.new_at 46 W1 (madeCells #[.int .i8 0] 34) _ rfl | exact blk_lt (Blk.new_at 46 W1 (madeCells #[.int .i8 0] 34) _ rfl) _ | exact Blk.new_at 46 (W1.alloc (.cells #[.int .i64 0, .int .i64 0, .int .i64 0, .int .i64 0, .int .i64 0, .int .i64 0, .int .i64 0, .int .i64 0, nilS, nilS, nilS, nilS] 29)) (madeCells #[.int .i8 0] 34) _ (World.size_alloc _ _).symm))).mono ?_; rintro e W3 ⟨E, L, N, O, Y, U, D', rfl, hM, h3⟩
       (first | have qm := keepM qz hM h3 | have qm := keepM (blk_lt qz _) hM h3 | have qm := keepM (q := W1.heap.size) (Blk.new_at 29 W1 #[.int .i64 0, .int .i64 0, .int .i64 0, .int .i64 0, .int .i64 0, .int .i64 0, .int .i64 0, .int .i64 0, nilS, nilS, nilS, nilS] _ rfl) hM h3 | have qm := keepM (q := W1.heap.size) (blk_lt (Blk.new_at 29 W1 #[.int .i64 0, .int .i64 0, .int .i64 0, .int .i64 0, .int .i64 0, .int .i64 0, .int .i64 0, .int .i64 0, nilS, nilS, nilS, nilS] _ rfl) _) hM h3 | have qm := keepM (q := W1.heap.size + 1) (Blk.new_at 29 (W1.alloc (.cells (madeCells #[.int .i8 0] 34) 46)) #[.int .i64 0, .int .i64 0, .int .i64 0, .int .i64 0, .int .i64 0, .int .i64 0, .int .i64 0, .int .i64 0, nilS, nilS, nilS, nilS] _ (World.size_alloc _ _).symm) hM h3 | skip)
       (first | (obtain ⟨z0, z1, z2, z3, z4, z5, z6, z7, z8, z9, z10, z11⟩ := qm.1.c12; obtain ⟨o0, o1, o2, o3, o4, o5, o6, o7, o8, o9, o10, o11⟩ := qm.1.o12) | skip)
       replace hb := below_then (by first | exact hb | exact below_new hb _ | exact below_new (below_new hb _) _ | exact below_drew hb ⟨1, rfl⟩ | exact below_drew (below_new hb _) ⟨1, rfl⟩ | exact below_drew (below_new (below_new hb _) _) ⟨1, rfl⟩) h3
       replace hM := hM.at_
       clear h3))
  all_goals
    (first
      | (obtain ⟨W6, eW, q5, only, hz⟩ := set12 qm.1 (.int .i64 2) (.int .i64 1) (.int .i64 1) (.int .i64 2) (.int .i64 1) (.int .i64 0) (.int .i64 0) (.int .i64 0) (.slice E.a E.n E.c) (.slice L.a L.n L.c) (.slice N.a N.n N.c) (.slice O.a O.n O.c)
         rw [eW]
         have hM5 := qm.2 W6 only
         have hb5 := Only.below hb (by omega) hb.size only
         clear z0 z1 z2 z3 z4 z5 z6 z7 z8 z9 z10 z11 o0 o1 o2 o3 o4 o5 o6 o7 o8 o9 o10 o11 eW only hz qm)
      | (have q5 := Blk.new 29 W3 #[.int .i64 2, .int .i64 1, .int .i64 1, .int .i64 2, .int .i64 1, .int .i64 0, .int .i64 0, .int .i64 0, .slice E.a E.n E.c, .slice L.a L.n L.c, .slice N.a N.n N.c, .slice O.a O.n O.c]
         have hM5 := hM.below (below_new (Below.refl _ _) (.cells #[.int .i64 2, .int .i64 1, .int .i64 1, .int .i64 2, .int .i64 1, .int .i64 0, .int .i64 0, .int .i64 0, .slice E.a E.n E.c, .slice L.a L.n L.c, .slice N.a N.n N.c, .slice O.a O.n O.c] 29))
         have hb5 := below_new hb (.cells #[.int .i64 2, .int .i64 1, .int .i64 1, .int .i64 2, .int .i64 1, .int .i64 0, .int .i64 0, .int .i64 0, .slice E.a E.n E.c, .slice L.a L.n L.c, .slice N.a N.n N.c, .slice O.a O.n O.c] 29)))
    clear hM hb
    obtain ⟨a0, a1, a2, a3, a4, a5, a6, a7, a8, a9, a10, a11⟩ := q5.c12
    go_wp2_with (first
      | (go_at_call 14; refine (k14 E L N O Y U D' _ hM5).mono ?_; rintro e W7 ⟨rfl, h7⟩; replace hb5 := below_then hb5 h7; clear h7 a0 a1 a2 a3 a4 a5 a6 a7 a8 a9 a10 a11 k14 hM5 q5)
      | (go_at_call 22; refine (k22 _).mono ?_; rintro e W8 ⟨E', L', N', O', Y', U', D2, rfl, hM8, h8⟩; replace hb5 := below_new (below_then hb5 h8) (.cells #[.int .i64 2, .int .i64 1, .int .i64 1, .int .i64 2, .int .i64 1, .int .i64 0, .int .i64 0, .int .i64 0, .slice E'.a E'.n E'.c, .slice L'.a L'.n L'.c, .slice N'.a N'.n N'.c, .slice O'.a O'.n O'.c] 29); have q8 := Blk.new 29 W8 #[.int .i64 2, .int .i64 1, .int .i64 1, .int .i64 2, .int .i64 1, .int .i64 0, .int .i64 0, .int .i64 0, .slice E'.a E'.n E'.c, .slice L'.a L'.n L'.c, .slice N'.a N'.n N'.c, .slice O'.a O'.n O'.c]; have oN : Hid (O'.n = 4) := hM8.at_.o.reads.len.symm.trans oo; clear h8 k22 hM8))
    obtain ⟨W9, e9⟩ : ∃ W9, W8.alloc (.cells #[.int .i64 2, .int .i64 1, .int .i64 1, .int .i64 2, .int .i64 1, .int .i64 0, .int .i64 0, .int .i64 0, .slice E'.a E'.n E'.c, .slice L'.a L'.n L'.c, .slice N'.a N'.n N'.c, .slice O'.a O'.n O'.c] 29) = W9 := ⟨_, rfl⟩
    rw [e9] at q8 hb5 ⊢
    obtain ⟨b0, b1, b2, b3, b4, b5, b6, b7, -, -, -, b11⟩ := q8.c12
    rw [oN.out] at b11
    have k56' : ∀ d' os, Calls Try.prog 56 #[] (grow (redrawn W9 d') os) fun e w'' => e = .returned (.agg #[.int .i64 2, .int .i64 1, .int .i64 1, .int .i64 2, .int .i64 1, .int .i64 0, .int .i64 0, .int .i64 0]) ∧ ∃ p : Regrown, w'' = grow (redrawn W9 p.d) p.os := fun d' os => Calls.regrown_of (k56 _)
    have k11' : ∀ d' os, Calls Try.prog 11 #[.agg #[.int .i64 2, .int .i64 1, .int .i64 1, .int .i64 2, .int .i64 1, .int .i64 0, .int .i64 0, .int .i64 0]] (grow (redrawn W9 d') os) fun e w'' => e = .returned (.int .i64 34) ∧ ∃ p : Regrown, w'' = grow (redrawn W9 p.d) p.os := fun d' os => Calls.regrown_of (k11 _)
    replace b0 := cell_regrown b0
    replace b1 := cell_regrown b1
    replace b2 := cell_regrown b2
    replace b3 := cell_regrown b3
    replace b4 := cell_regrown b4
    replace b5 := cell_regrown b5
    replace b6 := cell_regrown b6
    replace b7 := cell_regrown b7
    replace b11 := cell_regrown b11
    clear k56 k11 q8 e9 oN oo k24 mk
    refine wp_region_quiet_below (by kernel_rfl) (by kernel_rfl) ?_
    repeat (go_big_quiet_step (first | (go_at_call 56; exact k56' _ _) | (go_at_call 11; exact k11' _ _)))
    refine wpQuiet_nil ?_
    intro _ hw'
    obtain ⟨⟨dq, osq⟩, hw''⟩ := hw'
    subst hw''
    go_wp2
    go_ret
    exact ⟨rfl, below_then hb5 (below_regrown W9 dq osq)⟩
end

end Go.Proofs.Ytjbeloljbjfibaa

/- The document's taking of the free pages with the least numbers. -/
import Derived.Test.YtfggkkhehaafcaaRows
import Derived.Test.YtfggkkhehaafcaaPages
import Derived.Test.YtfggkkhehaafcaaView
import Derived.Test.YtfggkkhehaafcaaOwn
import Derived.Test.YtfggkkhehaafcaaReadsP
import Derived.Test.YtfggkkhehaafcaaRefPg
import Derived.Test.YtfggkkhehaafcaaLeast
import Derived.WalkKit
import Derived.ProofKit
import Derived.OpenShut
import Derived.Below
import Derived.WalkLawsBesides
import Derived.Deep.QuietTactic
import Derived.BigQuiet
import Derived.OwnWalk
import Derived.Deep.OwnRows
import Derived.Deep.RegionWith
import Derived.Deep.RegionHeld3
namespace Go.Proofs.Ytfggkkhehaafcaa
open Go.ChangeShapes Go.WideShapes Go.ChangeAt Go.RowKit
set_option linter.unusedVariables false

theorem info2' : (Try.prog.info? 2).map (fun i => (i.zero, i.size, i.bytes)) = some (some (.int .i64 0), 1, 8) := by kernel_rfl
theorem info101 : (Try.prog.info? 101).map (·.size) = some 3 := by kernel_rfl

/-- 32 cells of nought -/
def zero32 : Obj := .cells (madeCells #[.int .i64 0] 32) 2

theorem made32 (w : World) : (Instr.makeSlice 99 (.int .i64 32) (.int .i64 32)).run Try.prog w = .ok (.slice (some ⟨w.heap.size, 0, none⟩) 32 32) (w.alloc zero32) :=
  run_make_row' 99 2 (.int .i64 0) 8 Try.underlying99 info2' rfl .i64 .i64 32 (by decide) (by decide) w

theorem zero32_at (w : World) (j : Nat) (hj : j < 32) : (w.alloc zero32).cell? ⟨w.heap.size, j, none⟩ = some (.int .i64 0) := by
  have e : (w.alloc zero32).heap[w.heap.size]? = some zero32 := heap_alloc_new w zero32
  unfold World.cell?
  rw [e]
  simp [zero32, madeCells, hj, Nat.mod_one]

/-- an append to a row of the call's own writes only rows of its type -/
theorem off_append {Bs : Nat} {w w' : World} {e : TypeId} {v : Value} {n : Nat} {cs : List Value} {o : Obj} (h : w.ownsRow Bs e 1 v n cs) (hg : (w.alloc o).grownBy w' v.ownBlock) : Off Bs (fun t => t == e) w w' := by
  have hb := below_new (Below.refl w.heap.size w) o
  refine ⟨hg.os, hg.tape, hg.output, Nat.le_trans hb.size hg.size, fun k hk hc => (hg.block k (Nat.lt_of_lt_of_le hk hb.size) fun x => ?_).trans (hb.block k hk)⟩
  rcases h.2 with ⟨h1, _⟩ | ⟨g, cap, cur, h1, h2, h3, h4⟩
  · subst h1
    cases x
  · subst h1
    simp only [Value.ownBlock, Option.some.injEq] at x
    subst x
    rcases hc with hc | hc
    · omega
    · have := hc e (by simp [typeOf, h3])
      simp at this

set_option maxRecDepth 20000 in
theorem refTake_call {B : Nat} {w : World} {b g : Nat} {s : Pl} {r : Nat → Nat} (h : RefAt B w b g s r) (hB : B ≤ w.heap.size) (hn : s.n ≤ 256) (t : ByteArray) (K : Nat) (hK : K ≤ 256) :
    Calls Try.prog 67 #[.pointer (some ⟨b, 0, none⟩), .string t, .int .i64 K] w fun e w' =>
      (∃ a c, e = .returned (.slice a (tk s.pg K s.n).length c) ∧ RowI w.heap.size w' a (tk s.pg K s.n).length c (tk s.pg K s.n)) ∧ (∃ r', RefAt B w' b g { s with pg := takeP s.pg t K s.n } r') ∧ Off B TR w w' := by
  obtain ⟨i0, hi, hz0, hz1, hz2⟩ := info_parts info3
  obtain ⟨n, p, A⟩ := s
  simp only at hn ⊢
  have H0 := hidden_ h
  obtain ⟨X, eX⟩ : ∃ X : Addr, X = ⟨g, 0, none⟩ := ⟨_, rfl⟩
  have HX := hidden_ eX
  have HT := hidden_ (fun i => tk_le p K i)
  have HW := hidden_ (tk_wf p K n hn)
  have HB := hidden_ (And.intro h.top.lt h.row.lt)
  clear eX h
  go_enter Try.func67, Try.ntmps67
  go_wp2
  go_loopw [7, 8] (fun v i wr => ∃ k : Nat, k ≤ n ∧ i = .int .i64 k ∧ wr.ownsRow w.heap.size 3 1 v (tk p K k).length ((tk p K k).map (Value.int .i64)) ∧ (∃ r', RefAt B wr b g ⟨n, takeP p t K k, A⟩ r') ∧ Off B TR w wr) (fun _ i _ => n - (intOf i).toNat)
  case atStart => exact ⟨0, Nat.zero_le _, rfl, World.ownsRow_nil _ _ _ _, ⟨r, by rw [takeP_zero]; exact H0.out⟩, Off.refl _ _ _⟩
  case round =>
    obtain ⟨k, hk, rfl, ho, ⟨r', hp⟩, hoff⟩ := hrel
    obtain ⟨a, c, rfl⟩ := own_form ho
    have hl := HT.out k
    have t0 := hp.t0
    simp only at t0
    rw [← HX.out] at t0
    by_cases hlt : k < n
    · obtain ⟨L, eL⟩ : ∃ L, (tk p K k).length = L := ⟨_, rfl⟩
      rw [eL] at hl
      by_cases hL : L = K
      · have hst := tk_stop p t K k (eL.trans hL) (n - k)
        rw [show k + (n - k) = n by omega] at hst
        have HS := hidden_ hst
        have HO := hidden_ ho
        have HP := hidden_ (And.intro hp hoff)
        rw [eL]
        subst hL
        have HL := hidden_ eL
        clear eL hst ho hp hoff
        go_wp2
        go_ret
        refine ⟨⟨a, c, ?_, ?_⟩, ⟨r', ?_⟩, HP.out.2⟩
        · rw [HS.out.1, HL.out]
          rfl
        · rw [HS.out.1]
          exact ⟨rfl, HO.out, by rw [← HS.out.1]; exact HW.out⟩
        · rw [HS.out.2]
          exact HP.out.1
      · have hL' : ((L : Int) < (K : Int)) := by omega
        have eP : X.add (k * 3) = ⟨g, k * 3, none⟩ := by rw [HX.out, add_zero_at]
        have c1 := hp.c1 k hlt
        simp only [takeP_at] at c1
        obtain ⟨O, eO⟩ : ∃ O, (p k).ow = O := ⟨_, rfl⟩
        rw [eO] at c1
        by_cases hO : O = 0
        · subst hO
          have hmk := made32
          rw [eL] at ho ⊢
          have hA := hp.below (below_new (Below.refl _ wr) zero32)
          have tA : (wr.alloc zero32).cell? ⟨b, 0, none⟩ = some (.slice (some X) n n) := by rw [HX.out]; exact hA.t0
          have f0 := hA.row.open_ (k * 3)
          have f1 := hA.row.open_ (k * 3 + 1)
          have f2 := hA.row.open_ (k * 3 + 2)
          have d0 := hA.c0 k hlt
          have d1 := hA.c1 k hlt
          obtain ⟨v2, d2⟩ := hA.row.some_ (k * 3 + 2) (by simp only; omega)
          simp only [takeP_at] at d0 d1
          rw [eO] at d1
          have hR : Row 2 (wr.alloc zero32) wr.heap.size 32 := ⟨_, heap_alloc_new wr _, size_madeCells _ _⟩
          have hN := hA.setNew k hlt t wr.heap.size hR (by have := hoff.size; omega) (zero32_at wr) (fun j hj hu => Nat.ne_of_lt (hp.cr j hj hu).1.lt)
          have es := tk_yes p K k eO (by omega)
          have et := takeP_yes p t K k eO (by omega)
          have hlL : (tk p K (k + 1)).length = L + 1 := by rw [es, List.length_append, eL]; rfl
          simp only at hN
          rw [← et] at hN
          have HS := hidden_ (And.intro es hlL)
          have hof2 := (hoff.alloc zero32).trans hN.2
          have HR := hidden_ (And.intro (own_off (ho.alloc zero32) hN.2 rfl) (And.intro hN.1 hof2))
          clear ho hp hoff eL eO hA hN hR es et hlL hof2
          go_wp2
          go_region
          generalize hW : World.drew (World.setCell _ _ _) = W2
          have HR2 : Hid (W2.ownsRow w.heap.size 3 1 (.slice a L c) L ((tk p K k).map (Value.int .i64)) ∧ (∃ r'', RefAt B W2 b g ⟨n, takeP p t K (k + 1), A⟩ r'') ∧ Off B TR w W2) := by
            subst hW
            exact ⟨⟨HR.out.1.1, HR.out.1.2⟩, ⟨_, HR.out.2.1.drewN 1⟩, HR.out.2.2.drewN 1⟩
          have ho := HR2.out.1
          have hsz := HR2.out.2.2.size
          clear hW HR tA f0 f1 f2 d0 d1 d2 t0 c1 hmk
          go_wp2_with (first
            | (at_builtin; refine wpList_append_own _ rfl (.tmp 42) (.tmp 44) 58 rfl w.heap.size 3 i0 (.int .i64 0) 1 8 Try.underlying58 hi hz0 hz1 hz2 rfl (by decide) _ _ _ rfl (World.ownsRow.alloc (w := W2) ho _) ⟨_, 0, none⟩ 1 1 [.int .i64 k] rfl rfl (one_new _ _ _) (one_oneCell _ _) (by unfold maxLen; omega) (by omega) (by simp; omega) ?_; intro v' w3 ho' hg _))
          have hb3 : Below w.heap.size W2 w3 := ((Below.refl w.heap.size W2).alloc hsz _).grown hg (by simp; omega) (fun q hq => (ho.lt q hq).1)
          go_roundw
          case rel =>
            obtain ⟨r'', hr''⟩ := HR2.out.2.1
            exact ⟨k + 1, by omega, by go_num, by rw [HS.out.2, HS.out.1, ints_snoc]; exact ho', ⟨r'', hr''.off (off_append ho hg) rfl rfl rfl⟩, HR2.out.2.2.then_below hb3⟩
          case measure => simp [intOf]; omega
        · have es := tk_no p K k (fun x => hO (by rw [← eO]; exact x.1))
          have et := takeP_no p t K k (fun x => hO (by rw [← eO]; exact x.1))
          have HR := hidden_ (And.intro ho (And.intro hp hoff))
          have HS := hidden_ (And.intro es et)
          rw [eL]
          have HL := hidden_ eL
          clear es et ho hp hoff eL eO
          go_wp2
          go_roundw
          case rel => exact ⟨k + 1, by omega, by go_num, by rw [HS.out.1, HL.out]; have := HR.out.1; rw [HL.out] at this; exact this, ⟨r', by rw [HS.out.2]; exact HR.out.2.1⟩, HR.out.2.2⟩
          case measure => simp [intOf]; omega
    · have e : k = n := by omega
      subst e
      have HR := hidden_ (And.intro ho (And.intro hp hoff))
      obtain ⟨L, eL⟩ : ∃ L, (tk p K k).length = L := ⟨_, rfl⟩
      rw [eL]
      have HL := hidden_ eL
      clear ho hp hoff eL hl
      go_wp2
      go_ret
      exact ⟨⟨a, c, by rw [HL.out]; rfl, ⟨rfl, HR.out.1, HW.out⟩⟩, ⟨r', HR.out.2.1⟩, HR.out.2.2⟩

end Go.Proofs.Ytfggkkhehaafcaa

/- The parts of rows, the document's: the contract of the call. -/
import Derived.Test.YthbddbipmoflfaaRows
import Derived.Test.YthbddbipmoflfaaView
import Derived.Test.YthbddbipmoflfaaOwn
import Derived.Test.YthbddbipmoflfaaWhere
import Derived.Test.YthbddbipmoflfaaWorks
import Derived.Test.YthbddbipmoflfaaSoft
import Derived.Test.YthbddbipmoflfaaMean
import Derived.Test.YthbddbipmoflfaaGrids
import Derived.Test.YthbddbipmoflfaaAtPlain
import Derived.Test.YthbddbipmoflfaaAtCut
import Derived.WalkKit
import Derived.ProofKit
import Derived.OpenShut
import Derived.Below
import Derived.WalkLawsBesides
import Derived.Deep.QuietTactic
import Derived.BigQuiet
namespace Go.Proofs.Ythbddbipmoflfaa
open Go.ChangeShapes Go.WideShapes Go.ChangeAt Go.RowKit
set_option linter.unusedVariables false

def cutCells (A : Nat → Option Addr) (C : Nat → Nat) (f d k : Nat) : List Value := (List.range k).map fun r => .slice (cutA A f r) d (C r - f)

theorem cutCells_succ (A : Nat → Option Addr) (C : Nat → Nat) (f d k : Nat) : cutCells A C f d (k + 1) = cutCells A C f d k ++ [.slice (cutA A f k) d (C k - f)] := by
  simp [cutCells, List.range_succ]

theorem cut_own {w : World} {a : Option Addr} {n B : Nat} {A : Nat → Option Addr} {C : Nat → Nat} {R : Nat → List Int} (h : Grid w a n A C R) {f d : Nat} (hd : 0 < d) (hr : ∀ r, r < n → f + d ≤ (R r).length) {v : Value} (ho : w.ownsRow B 22 1 v n (cutCells A C f d n)) :
    ∃ b j, v = .slice b n j ∧ Grid w b n (cutA A f) (fun r => C r - f) (cutR R f d) := by
  rcases ho.2 with ⟨rfl, rfl⟩ | ⟨g, cap, cur, rfl, _, hg, hn, hm', hs, ht⟩
  · exact ⟨none, 0, rfl, cut_grid h hd hr (fun h => by omega) (fun x hx => by cases hx)⟩
  · refine ⟨_, _, rfl, cut_grid h hd hr (fun _ => ⟨_, rfl⟩) (fun x hx r hr' => ?_)⟩
    obtain rfl := Option.some.inj hx
    exact ho.cells (g := g) rfl r _ (by simp [cutCells, hr'])

theorem refCut_call (a : Option Addr) (n c : Nat) (A : Nat → Option Addr) (C : Nat → Nat) (R : Nat → List Int) (f d : Nat) (w : World) (h : Grid w a n A C R) (hC : ∀ r, r < n → (R r).length ≤ C r) (hd : 0 < d) (hr : ∀ r, r < n → f + d ≤ (R r).length) (hb : n * 24 ≤ 140737488351232) :
    Calls Try.prog 32 #[.slice a n c, .int .i64 f, .int .i64 d] w fun e w' => (∃ b k, e = .returned (.slice b n k) ∧ Grid w' b n (cutA A f) (fun r => C r - f) (cutR R f d)) ∧ Below w.heap.size w w' := by
  obtain ⟨i0, hi, hz0, hz1, hz2⟩ := info_parts info22
  have hm := h.max
  go_enter Try.func32, Try.ntmps32
  go_wp2
  go_loopw [7, 8] (fun v i wr => ∃ k : Nat, k ≤ n ∧ i = .int .i64 k ∧ Below w.heap.size w wr ∧ wr.ownsRow w.heap.size 22 1 v k (cutCells A C f d k)) (fun _ i _ => n - (intOf i).toNat)
  case atStart => exact ⟨0, Nat.zero_le _, rfl, Below.refl _ _, World.ownsRow_nil _ _ _ _⟩
  case round =>
    obtain ⟨k, hk, rfl, hbr, ho⟩ := hrel
    by_cases hlt : k < n
    · obtain ⟨x, rfl⟩ := h.some_ (by omega)
      have rk := h.row k hlt
      have cx := (h.below hbr).cell x rfl k hlt
      have h1 := hr k hlt
      have h2 := hC k hlt
      have h3 := rk.max
      obtain ⟨y, ey⟩ := rk.some_ (by omega)
      have eA : cutA A f k = some (y.add f) := by unfold cutA; rw [ey]; rfl
      have es := cutCells_succ A C f d k
      rw [eA] at es
      have Es : Hid _ := es
      rw [ey] at cx
      obtain ⟨L, eL⟩ : ∃ L, (R k).length = L := ⟨_, rfl⟩
      rw [eL] at cx h1 h2 h3
      obtain ⟨G, eG⟩ : ∃ G, C k = G := ⟨_, rfl⟩
      rw [eG] at cx h2 Es
      obtain ⟨Q, eQ⟩ : ∃ Q, f + d = Q := ⟨_, rfl⟩
      have eQ' : (f : Int) + (d : Int) = (Q : Int) := by omega
      have eQ2 : Q - f = d := by omega
      have hQ : Q ≤ G := by omega
      have hP : f < Q := by omega
      have hG : ¬G = f := by omega
      have hQ3 : Q ≤ 9223372036854775807 := by omega
      have hsz := hbr.size
      clear eQ eG eL eA es ey rk h hr hC
      go_wp2_with (at_builtin; refine wpList_append_own _ rfl (.tmp 15) (.tmp 25) 23 rfl w.heap.size 22 i0 (.slice none 0 0) 1 24 Try.underlying23 hi hz0 hz1 hz2 rfl (by decide) _ _ _ rfl (ho.alloc _) ⟨_, 0, none⟩ 1 1 [.slice (some (y.add f)) d (G - f)] rfl rfl (one_new _ _ _) (by simp [Value.oneCell']) (by unfold maxLen; omega) (by omega) (by simp; omega) ?_; intro v' w1 ho' hg _)
      go_roundw
      case rel =>
        refine ⟨k + 1, by omega, by go_num, ?_, ?_⟩
        · exact (hbr.alloc hsz _).grown hg (by have := (Below.refl w.heap.size wr).alloc hsz (.cells #[.slice (some (y.add f)) d (G - f)] 22); have := this.size; omega) (fun g h => (ho.lt g h).1)
        · rw [Es.out]; exact ho'
      case measure => simp [intOf]; omega
    · have e : k = n := by omega
      subst e
      have fin := cut_own (h.below hbr) hd hr ho
      obtain ⟨b, j, rfl, hG⟩ := fin
      clear ho
      go_wp2
      go_ret
      exact ⟨⟨_, _, rfl, hG⟩, hbr⟩

end Go.Proofs.Ythbddbipmoflfaa

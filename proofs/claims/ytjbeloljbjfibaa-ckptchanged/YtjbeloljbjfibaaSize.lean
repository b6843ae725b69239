/- Size: how many weights a right configuration has, by the program's visit. -/
import Derived.Test.YtjbeloljbjfibaaRows
import Derived.Test.YtjbeloljbjfibaaLayer8
import Derived.Test.YtjbeloljbjfibaaConf
import Derived.Test.YtjbeloljbjfibaaBlank
import Derived.Test.YtjbeloljbjfibaaV33
import Derived.WalkKit
import Derived.ProofKit
import Derived.OpenShut
import Derived.Below
import Derived.WalkLawsBesides
import Derived.Deep.QuietTactic
import Derived.BigQuiet
import Derived.Deep.RegionWith
import Derived.Deep.RegionHeld3
import Derived.Deep.OwnRows
namespace Go.Proofs.Ytjbeloljbjfibaa
open Go.ChangeShapes Go.WideShapes Go.ChangeAt Go.RowKit
set_option linter.unusedVariables false


theorem closure33 (a : Addr) (vb : Nat) (s k : Int) (hs : 0 ≤ s ∧ s ≤ 1000000) (hk : 0 ≤ k ∧ k ≤ 1000) (W : World) (q : Blk 3 W vb #[.int .i64 s]) :
    Calls Try.prog 33 #[.pointer (some a), .int .i64 k, .pointer (some ⟨vb, 0, none⟩)] W fun e W' => e = .returned (.tuple #[]) ∧ Blk 3 W' vb #[.int .i64 (s + k)] ∧ Only vb W W' := by
  have c0 : W.cell? ⟨vb, 0, none⟩ = some (.int .i64 s) := q.cell 0 rfl
  have f0 := q.open_ 0
  obtain ⟨h1, h2⟩ := hs
  obtain ⟨h3, h4⟩ := hk
  have HQ := hidden_ q
  clear q
  go_enter Try.func33, Try.ntmps33
  go_wp2
  go_end0
  exact ⟨rfl, HQ.out.set 0 _, Only.set _ _ _ _⟩

/-- the memory of a blank model that visit reads -/
theorem held_blank {mb cb b ln ne : Nat} {d h v u x t n : Int} {y0 y1 y2 y3 y4 y5 y6 y7 y8 y10 y11 : Value} {W : World} (fr : W.rowIs (b + 2) 59 (ln * 9) (layF b ne ln))
    (qm : Blk 29 W mb #[y0, y1, y2, y3, y4, y5, y6, y7, y8, .slice (some ⟨b + 2, 0, none⟩) ln ln, y10, y11]) (qc : Blk 23 W cb #[.int .i64 d, .int .i64 h, .int .i64 (ln : Int), .int .i64 v, .int .i64 u, .int .i64 x, .int .i64 t, .int .i64 n]) :
    Held mb cb ln ln ne ⟨b + 2, 0, none⟩ (fun i => ⟨b + 4 + 4 * i, 0, none⟩) (fun i => ⟨b + 6 + 4 * i, 0, none⟩) (fun _ => ne) (fun _ => ne) d v u x W := by
  obtain ⟨c0, c1, c2, c3, c4, c5, c6, c7⟩ := qc.cfg
  refine ⟨qm.cell 9 rfl, c0, c3, c4, c5, fun i hi => ?_, fun i hi => ?_⟩
  · rw [(at_mul (b + 2) i).1, (at_mul (b + 2) i).2, fr.cell (by omega)]
    unfold layF
    rw [if_pos ⟨by omega, by omega⟩, show (i * 9 + 7) / 9 = i by omega]
  · rw [(at_mul (b + 2) i).1, (at_mul (b + 2) i).2, fr.cell (by omega)]
    unfold layF
    rw [if_neg (by omega), if_pos ⟨by omega, by omega⟩, show (i * 9 + 8) / 9 = i by omega]

theorem Held.only {mb cb ln lc ne vb : Nat} {LA : Addr} {UA DA : Nat → Addr} {uc dc : Nat → Nat} {d v u x : Int} {W W' : World} (h : Held mb cb ln lc ne LA UA DA uc dc d v u x W) (o : Only vb W W') (h1 : mb ≠ vb) (h2 : cb ≠ vb) (h3 : LA.block ≠ vb) :
    Held mb cb ln lc ne LA UA DA uc dc d v u x W' := by
  have k : ∀ {p : Addr} {y : Value}, W.cell? p = some y → p.block ≠ vb → W'.cell? p = some y := fun hp hn => o.cell hp (fun e => hn (by simpa using e))
  have bl : ∀ i, (LA.add (i * 9)).block = LA.block := fun i => by unfold Addr.add; split <;> rfl
  exact ⟨k h.c9 h1, k h.d0 h2, k h.d3 h2, k h.d4 h2, k h.d5 h2, fun i hi => k (h.up i hi) (by show (LA.add (i * 9)).block ≠ vb; rw [bl]; exact h3), fun i hi => k (h.dn i hi) (by show (LA.add (i * 9)).block ≠ vb; rw [bl]; exact h3)⟩

/-- how many weights the first j kinds of a layer's lists have -/
def preZ (d dd xd : Int) : Nat → Int
  | 0 => 0
  | 1 => d
  | 2 => d + dd
  | 3 => d + dd + dd
  | 4 => d + dd + dd + dd
  | 5 => d + dd + dd + dd + dd
  | 6 => d + dd + dd + dd + dd + d
  | _ => d + dd + dd + dd + dd + d + xd

def perZ (d dd xd ud : Int) (ne : Nat) : Int := d + dd + dd + dd + dd + d + xd + (ne : Int) * (ud + ud)

theorem wrap_small {z : Int} (h : 0 ≤ z ∧ z ≤ 1000) : IntKind.i64.wrap z = z := by
  rw [IntKind.wrap_i64]
  omega

theorem int_upto {i m : Nat} {z : Int} (h : i ≤ m) (hz : 0 ≤ z) : 0 ≤ (i : Int) * z ∧ (i : Int) * z ≤ (m : Int) * z :=
  ⟨Int.mul_nonneg (by omega) hz, Int.mul_le_mul_of_nonneg_right (by omega) hz⟩

theorem size_visit (d h v u x t n : Int) (ln ne mb vb b : Nat) (vd dd xd ud : Int) (e1 : v * d = vd) (e2 : d * d = dd) (e3 : x * d = xd) (e4 : u * d = ud)
    (b0 : 0 ≤ d ∧ d ≤ 1000) (b1 : 0 ≤ vd ∧ vd ≤ 1000) (b2 : 0 ≤ dd ∧ dd ≤ 1000) (b3 : 0 ≤ xd ∧ xd ≤ 1000) (b4 : 0 ≤ ud ∧ ud ≤ 1000) (l1 : ln ≤ 4) (l2 : ne ≤ 4) (w : World) {y8 y10 y11 : Value}
    (fr : w.rowIs (b + 2) 59 (ln * 9) (layF b ne ln)) (qm : Blk 29 w mb #[.int .i64 d, .int .i64 h, .int .i64 (ln : Int), .int .i64 v, .int .i64 u, .int .i64 x, .int .i64 t, .int .i64 n, y8, .slice (some ⟨b + 2, 0, none⟩) ln ln, y10, y11]) (qv : Blk 3 w vb #[.int .i64 0]) (h1 : mb ≠ vb) (h3 : b + 2 ≠ vb) :
    Calls Try.prog 32 #[.pointer (some ⟨mb, 0, none⟩), .func (.func 33) #[] #[.pointer (some ⟨vb, 0, none⟩)]] w fun e w' =>
      e = .returned (.tuple #[]) ∧ Blk 3 w' vb #[.int .i64 (vd + (ln : Int) * perZ d dd xd ud ne + d + vd)] ∧ Only vb w w' := by
  obtain ⟨W0, eW⟩ : ∃ W0, w.alloc (.cells #[.int .i64 d, .int .i64 h, .int .i64 (ln : Int), .int .i64 v, .int .i64 u, .int .i64 x, .int .i64 t, .int .i64 n] 23) = W0 := ⟨_, rfl⟩
  have bw : Below w.heap.size w W0 := eW ▸ below_new (Below.refl _ w) _
  have qc : Blk 23 W0 w.heap.size #[.int .i64 d, .int .i64 h, .int .i64 (ln : Int), .int .i64 v, .int .i64 u, .int .i64 x, .int .i64 t, .int .i64 n] := eW ▸ Blk.new 23 w _
  have hv : vb < w.heap.size := qv.lt
  have hold : Held mb w.heap.size ln ln ne ⟨b + 2, 0, none⟩ (fun i => ⟨b + 4 + 4 * i, 0, none⟩) (fun i => ⟨b + 6 + 4 * i, 0, none⟩) (fun _ => ne) (fun _ => ne) d v u x W0 :=
    held_blank (fr.of_block (bw.block _ fr.lt)) (qm.kept bw) qc
  obtain ⟨per, ep⟩ : ∃ p, perZ d dd xd ud ne = p := ⟨_, rfl⟩
  have nb := int_upto l2 (show (0 : Int) ≤ ud + ud by omega)
  have pb : 0 ≤ per ∧ per ≤ 20000 := by rw [← ep]; unfold perZ; omega
  have ib : ∀ i, i ≤ ln → 0 ≤ (i : Int) * per ∧ (i : Int) * per ≤ 80000 := fun i hi => by
    have := int_upto (show i ≤ 4 by omega) pb.1
    omega
  have jb : ∀ j, j ≤ ne → 0 ≤ (j : Int) * (ud + ud) ∧ (j : Int) * (ud + ud) ≤ 8000 := fun j hj => by
    have := int_upto (show j ≤ 4 by omega) (show (0 : Int) ≤ ud + ud by omega)
    omega
  have st : ∀ (W : World) (a : Addr) (s k s' : Int), 0 ≤ s ∧ s ≤ 1000000 → 0 ≤ k ∧ k ≤ 1000 → s + k = s' → Blk 3 W vb #[.int .i64 s] → Only vb W0 W →
      Calls Try.prog 33 #[.pointer (some a), .int .i64 k, .pointer (some ⟨vb, 0, none⟩)] W.drew fun e W' => e = .returned (.tuple #[]) ∧ Blk 3 W' vb #[.int .i64 s'] ∧ Only vb W0 W' := fun W a s k s' hs hk e hq hO => by
    refine (closure33 a vb s k hs hk W.drew hq).mono ?_
    rintro e' W' ⟨he, q', o'⟩
    rw [e] at q'
    exact ⟨he, q', (hO.drewN 1).trans o'⟩
  have pr : ∀ m, m < 7 → preZ d dd xd m + preZ d dd xd (m + 1) - preZ d dd xd m = preZ d dd xd (m + 1) := fun m _ => by omega
  have := visit_33 d h (ln : Int) v u x t n w mb vb ln ln ne ⟨b + 2, 0, none⟩ (fun i => ⟨b + 4 + 4 * i, 0, none⟩) (fun i => ⟨b + 6 + 4 * i, 0, none⟩) (fun _ => ne) (fun _ => ne) vd dd xd ud e1 e2 e3 e4 (by rw [Int.mul_comm]; exact e4)
    (wrap_small b1) (wrap_small b2) (wrap_small b3) (wrap_small b4) (by omega) (by omega) (fun W => Only vb W0 W) (fun W hW => hold.only hW h1 (by omega) h3)
    (fun W => Blk 3 W vb #[.int .i64 0]) (fun W => Blk 3 W vb #[.int .i64 (vd + (ln : Int) * per + d)]) (fun W => Blk 3 W vb #[.int .i64 (vd + (ln : Int) * per + d + vd)])
    (fun i m W => Blk 3 W vb #[.int .i64 (vd + (i : Int) * per + preZ d dd xd m)]) (fun i j W => Blk 3 W vb #[.int .i64 (vd + (i : Int) * per + preZ d dd xd 7 + (j : Int) * (ud + ud))])
    (fun i j W => Blk 3 W vb #[.int .i64 (vd + (i : Int) * per + preZ d dd xd 7 + (j : Int) * (ud + ud) + ud)])
    ⟨qm.cell 0 rfl, qm.cell 1 rfl, qm.cell 2 rfl, qm.cell 3 rfl, qm.cell 4 rfl, qm.cell 5 rfl, qm.cell 6 rfl, qm.cell 7 rfl⟩ (eW ▸ qv.kept bw) (eW ▸ Only.refl _ _)
    (fun W hs hr => st W _ _ _ _ (by omega) (by omega) (by simp [preZ]) hs hr)
    (fun i hi W hs hr => st W _ _ _ _ (by have := ib i (by omega); simp only [preZ]; omega) (by omega) (by simp only [preZ]; omega) hs hr)
    (fun i hi W hs hr => st W _ _ _ _ (by have := ib i (by omega); simp only [preZ]; omega) (by omega) (by simp only [preZ]; omega) hs hr)
    (fun i hi W hs hr => st W _ _ _ _ (by have := ib i (by omega); simp only [preZ]; omega) (by omega) (by simp only [preZ]; omega) hs hr)
    (fun i hi W hs hr => st W _ _ _ _ (by have := ib i (by omega); simp only [preZ]; omega) (by omega) (by simp only [preZ]; omega) hs hr)
    (fun i hi W hs hr => st W _ _ _ _ (by have := ib i (by omega); simp only [preZ]; omega) (by omega) (by simp only [preZ]; omega) hs hr)
    (fun i hi W hs hr => st W _ _ _ _ (by have := ib i (by omega); simp only [preZ]; omega) (by omega) (by simp only [preZ]; omega) hs hr)
    (fun i hi W hs hr => st W _ _ _ _ (by have := ib i (by omega); simp only [preZ]; omega) (by omega) (by simp only [preZ]; omega) hs hr)
    (fun i hi j hj W hs hr => st W _ _ _ _ (by have := ib i (by omega); have := jb j (by omega); simp only [preZ]; omega) (by omega) rfl hs hr)
    (fun i hi j hj W hs hr => st W _ _ _ _ (by have := ib i (by omega); have := jb j (by omega); simp only [preZ]; omega) (by omega) (by rw [Int.natCast_add, Int.add_mul (j : Int)]; omega) hs hr)
    (fun i hi W hs => by
      have e : vd + (i : Int) * per + preZ d dd xd 7 + (ne : Int) * (ud + ud) = vd + ((i + 1 : Nat) : Int) * per + preZ d dd xd 0 := by
        rw [Int.natCast_add, Int.add_mul]
        simp only [preZ]
        have := ep
        unfold perZ at this
        omega
      show Blk 3 W vb _
      rw [← e]
      exact hs)
    (fun W hs hr => st W _ _ _ _ (by have := ib ln (by omega); simp only [preZ]; omega) (by omega) (by simp only [preZ]; omega) hs hr)
    (fun W hs hr => st W _ _ _ _ (by have := ib ln (by omega); omega) (by omega) rfl hs hr)
  rw [ep]
  exact this.mono fun e w' hh => ⟨hh.1, hh.2.1, (Only.of_below bw).trans hh.2.2⟩

theorem size_no (d h l v u x t n : Int) (ok : okB d h l v u x t n = false) (w : World) : Calls Try.prog 11 #[.agg #[.int .i64 d, .int .i64 h, .int .i64 l, .int .i64 v, .int .i64 u, .int .i64 x, .int .i64 t, .int .i64 n]] w fun e w' => e = .returned (.int .i64 0) ∧ Below w.heap.size w w' := by
  have k9 := config_call d h l v u x t n
  simp only [ok] at k9
  have hb := below_new (Below.refl w.heap.size w) (.cells #[.int .i64 d, .int .i64 h, .int .i64 l, .int .i64 v, .int .i64 u, .int .i64 x, .int .i64 t, .int .i64 n] 23)
  go_enter Try.func11, Try.ntmps11
  go_wp2_with (first | (go_at_call 9; refine (k9 _).mono ?_; rintro e W1 ⟨rfl, h1⟩; replace hb := below_then hb h1; clear h1))
  go_ret
  exact ⟨rfl, hb⟩

set_option maxHeartbeats 1000000 in
theorem size_yes (d h v u x t n : Int) (ln ne : Nat) (vd dd xd ud : Int) (e1 : v * d = vd) (e2 : d * d = dd) (e3 : x * d = xd) (e4 : u * d = ud) (hx : max x 1 = (ne : Int))
    (b0 : 0 ≤ d ∧ d ≤ 1000) (b1 : 0 ≤ vd ∧ vd ≤ 1000) (b2 : 0 ≤ dd ∧ dd ≤ 1000) (b3 : 0 ≤ xd ∧ xd ≤ 1000) (b4 : 0 ≤ ud ∧ ud ≤ 1000) (l1 : ln ≤ 4) (l2 : ne ≤ 4)
    (ok : okB d h (ln : Int) v u x t n = true) (w : World) : Calls Try.prog 11 #[.agg #[.int .i64 d, .int .i64 h, .int .i64 (ln : Int), .int .i64 v, .int .i64 u, .int .i64 x, .int .i64 t, .int .i64 n]] w fun e w' => e = .returned (.int .i64 (vd + (ln : Int) * perZ d dd xd ud ne + d + vd)) ∧ Below w.heap.size w w' := by
  have k9 := config_call d h (ln : Int) v u x t n
  simp only [ok] at k9
  have k31 := fun W => blank_call d h v u x t n ln ne (by omega) (by omega) hx W
  have hb := below_new (Below.refl w.heap.size w) (.cells #[.int .i64 d, .int .i64 h, .int .i64 (ln : Int), .int .i64 v, .int .i64 u, .int .i64 x, .int .i64 t, .int .i64 n] 23)
  have key := Blk.new 23 w #[.int .i64 d, .int .i64 h, .int .i64 (ln : Int), .int .i64 v, .int .i64 u, .int .i64 x, .int .i64 t, .int .i64 n]
  have s9 : ∀ W1 : World, Below (w.alloc (.cells #[.int .i64 d, .int .i64 h, .int .i64 (ln : Int), .int .i64 v, .int .i64 u, .int .i64 x, .int .i64 t, .int .i64 n] 23)).heap.size (w.alloc (.cells #[.int .i64 d, .int .i64 h, .int .i64 (ln : Int), .int .i64 v, .int .i64 u, .int .i64 x, .int .i64 t, .int .i64 n] 23)) W1 → ∃ X1, W1.alloc (.cells #[.int .i64 0] 3) = X1 ∧ Blk 23 X1 w.heap.size #[.int .i64 d, .int .i64 h, .int .i64 (ln : Int), .int .i64 v, .int .i64 u, .int .i64 x, .int .i64 t, .int .i64 n] ∧ Blk 3 X1 W1.heap.size #[.int .i64 0] ∧ Below w.heap.size w X1 ∧ w.heap.size < W1.heap.size := fun W1 h1 => by
    have q1 := key.kept h1
    exact ⟨_, rfl, q1.kept (below_new (Below.refl _ _) _), Blk.new 3 W1 _, below_new (below_then hb h1) _, q1.lt⟩
  have k32 : ∀ W1 X1 W3 : World, W1.alloc (.cells #[.int .i64 0] 3) = X1 → Blk 3 X1 W1.heap.size #[.int .i64 0] → Below X1.heap.size X1 W3 → Frames X1.heap.size ln ne ln W3 →
      Calls Try.prog 32 #[.pointer (some ⟨W3.heap.size, 0, none⟩), .func (.func 33) #[] #[.pointer (some ⟨W1.heap.size, 0, none⟩)]] (W3.alloc (.cells #[.int .i64 d, .int .i64 h, .int .i64 (ln : Int), .int .i64 v, .int .i64 u, .int .i64 x, .int .i64 t, .int .i64 n, nilS, .slice (some ⟨X1.heap.size + 2, 0, none⟩) ln ln, nilS, nilS] 29)) fun e w' =>
        e = .returned (.tuple #[]) ∧ Blk 3 w' W1.heap.size #[.int .i64 (vd + (ln : Int) * perZ d dd xd ud ne + d + vd)] ∧ Only W1.heap.size (W3.alloc (.cells #[.int .i64 d, .int .i64 h, .int .i64 (ln : Int), .int .i64 v, .int .i64 u, .int .i64 x, .int .i64 t, .int .i64 n, nilS, .slice (some ⟨X1.heap.size + 2, 0, none⟩) ln ln, nilS, nilS] 29)) w' := fun W1 X1 W3 e q h3 fr => by
    have z : X1.heap.size = W1.heap.size + 1 := by rw [← e]; simp
    have f3 := fr.size
    have qv : Blk 3 W3 W1.heap.size #[.int .i64 0] := (h3.block _ (by omega)).trans q
    exact size_visit d h v u x t n ln ne W3.heap.size W1.heap.size X1.heap.size vd dd xd ud e1 e2 e3 e4 b0 b1 b2 b3 b4 l1 l2 _ (fr.row.alloc _) (Blk.new 29 W3 _) (qv.kept (below_new (Below.refl _ _) _)) (by omega) (by omega)
  have HK := hidden_ key
  have H9 := hidden_ s9
  have HB := hidden_ hb
  clear key s9 hb
  go_enter Try.func11, Try.ntmps11
  go_wp2_with (first
    | (go_at_call 9; refine (k9 _).mono ?_; rintro e W1 ⟨rfl, h1⟩; obtain ⟨X1, eX, q1, q2, hb, hw⟩ := H9.out W1 h1; obtain ⟨c0, c1, c2, c3, c4, c5, c6, c7⟩ := q1.cfg; rw [← eX] at c0 c1 c2 c3 c4 c5 c6 c7; have EX := hidden_ eX; clear eX h1)
    | (go_at_call 31; rw [EX.out]; refine (k31 _).mono ?_; rintro e W3 ⟨rfl, h3, fr⟩; clear c0 c1 c2 c3 c4 c5 c6 c7)
    | (go_at_call 32; refine (k32 W1 X1 W3 EX.out q2 h3 fr).mono ?_; rintro e W5 ⟨rfl, q5, o5⟩; have r5 := q5.cell 0 rfl))
  go_ret
  refine ⟨rfl, ?_⟩
  exact Only.below (below_new (below_then hb h3) _) (by omega) (by have := (below_new (below_then hb h3) (.cells #[] 3)).size; simp at this ⊢; omega) o5

end Go.Proofs.Ytjbeloljbjfibaa

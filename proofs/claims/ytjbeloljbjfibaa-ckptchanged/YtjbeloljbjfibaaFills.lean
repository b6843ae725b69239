/- The lists of a blank model, filled by visit with Shape's closure. -/
import Derived.Test.YtjbeloljbjfibaaRows
import Derived.Test.YtjbeloljbjfibaaLayer8
import Derived.Test.YtjbeloljbjfibaaConf
import Derived.Test.YtjbeloljbjfibaaBlank
import Derived.Test.YtjbeloljbjfibaaCfgRef
import Derived.Test.YtjbeloljbjfibaaSize
import Derived.Test.YtjbeloljbjfibaaSizes
import Derived.Test.YtjbeloljbjfibaaSteps
import Derived.Test.YtjbeloljbjfibaaClo54
import Derived.Test.YtjbeloljbjfibaaFill
import Derived.Test.YtjbeloljbjfibaaMods
import Derived.Test.YtjbeloljbjfibaaV54
import Derived.WalkKit
import Derived.ProofKit
import Derived.OpenShut
import Derived.Below
import Derived.WalkLawsBesides
import Derived.Deep.QuietTactic
import Derived.BigQuiet
import Derived.Deep.RegionWith
import Derived.Deep.RegionHeld3
import Derived.Deep.OwnRows
namespace Go.Proofs.Ytjbeloljbjfibaa
open Go.ChangeShapes Go.WideShapes Go.ChangeAt Go.RowKit
set_option linter.unusedVariables false


theorem at_add (b k : Nat) : (⟨b, 0, none⟩ : Addr).add k = ⟨b, k, none⟩ := by
  unfold Addr.add
  split <;> rename_i h
  · rw [h]
  · simp

theorem Filled.held {mb b ln ne D' n vb xb B0 base : Nat} {cnt : Nat → Nat} {ws : List Int} {W0 W : World} {k : Nat} {d v u x : Int} {cb : Nat} (h : Filled (planA mb b ln ne) cnt (1 + ln * pl ne + 2) n vb xb B0 base ws W0 k W)
    (hh : Held mb cb ln ln ne ⟨b + 2, 0, none⟩ (fun i => ⟨b + 4 + 4 * i, 0, none⟩) (fun i => ⟨b + 6 + 4 * i, 0, none⟩) (fun _ => ne) (fun _ => ne) d v u x W0) (hm : b + 3 + 4 * ln ≤ mb) (hc : mb < cb) (hv : vb < b) :
    Held mb cb ln ln ne ⟨b + 2, 0, none⟩ (fun i => ⟨b + 4 + 4 * i, 0, none⟩) (fun i => ⟨b + 6 + 4 * i, 0, none⟩) (fun _ => ne) (fun _ => ne) d v u x W := by
  have nc : ∀ o j, j < 1 + ln * pl ne + 2 → (⟨cb, o, none⟩ : Addr) ≠ planA mb b ln ne j := fun o j hj e => by
    have e' : cb = (planA mb b ln ne j).block := by rw [← e]
    rcases planA_block mb b ln ne j hj with ⟨g, _⟩ | ⟨g, _⟩ | ⟨i, hi, g | g⟩ <;> omega
  have nl : ∀ i r, 7 ≤ r → r < 9 → ∀ j, j < 1 + ln * pl ne + 2 → (⟨((⟨b + 2, 0, none⟩ : Addr).add (i * 9)).block, ((⟨b + 2, 0, none⟩ : Addr).add (i * 9)).off + r, none⟩ : Addr) ≠ planA mb b ln ne j := fun i r h7 h9 j hj e => by
    rw [at_add] at e
    have e1 : b + 2 = (planA mb b ln ne j).block := by rw [← e]
    have e2 : i * 9 + r = (planA mb b ln ne j).off := by rw [← e]
    rcases planA_block mb b ln ne j hj with ⟨g, _⟩ | ⟨g, g'⟩ | ⟨i, hi, g | g⟩ <;> omega
  have bl : ∀ i, ((⟨b + 2, 0, none⟩ : Addr).add (i * 9)).block = b + 2 := fun i => by rw [at_add]
  refine ⟨h.keep _ _ hh.c9 (fun j hj e => ?_) (by show mb ≠ vb; omega), h.keep _ _ hh.d0 (nc 0) (by show cb ≠ vb; omega), h.keep _ _ hh.d3 (nc 3) (by show cb ≠ vb; omega), h.keep _ _ hh.d4 (nc 4) (by show cb ≠ vb; omega), h.keep _ _ hh.d5 (nc 5) (by show cb ≠ vb; omega),
    fun i hi => h.keep _ _ (hh.up i hi) (nl i 7 (by omega) (by omega)) (by rw [bl]; omega), fun i hi => h.keep _ _ (hh.dn i hi) (nl i 8 (by omega) (by omega)) (by rw [bl]; omega)⟩
  have e1 : mb = (planA mb b ln ne j).block := by rw [← e]
  have e2 : 9 = (planA mb b ln ne j).off := by rw [← e]
  rcases planA_block mb b ln ne j hj with ⟨g, g'⟩ | ⟨g, _⟩ | ⟨i, hi, g | g⟩ <;> omega

theorem shape_visit (h v u x t n : Int) (ln ne D DD XD UD VD mb vb b B0 nW cW : Nat) (xa : Addr) (ws : List Int) (e1 : v * (D : Int) = (VD : Int)) (e2 : (D : Int) * (D : Int) = (DD : Int)) (e3 : x * (D : Int) = (XD : Int)) (e4 : u * (D : Int) = (UD : Int))
    (b0 : D ≤ 1000) (b1 : VD ≤ 1000) (b2 : DD ≤ 1000) (b3 : XD ≤ 1000) (b4 : UD ≤ 1000) (l1 : ln ≤ 4) (l2 : ne ≤ 4) (w : World) {y8 y10 y11 : Value}
    (fr : w.rowIs (b + 2) 59 (ln * 9) (layF b ne ln)) (fu : ∀ i, i < ln → w.rowIs (b + 4 + 4 * i) 26 ne (fun _ => nilS)) (fd : ∀ i, i < ln → w.rowIs (b + 6 + 4 * i) 26 ne (fun _ => nilS))
    (qm : Blk 29 w mb #[.int .i64 (D : Int), .int .i64 h, .int .i64 (ln : Int), .int .i64 v, .int .i64 u, .int .i64 x, .int .i64 t, .int .i64 n, y8, .slice (some ⟨b + 2, 0, none⟩) ln ln, y10, y11]) (qv : Blk 26 w vb #[.slice (some xa) nW cW]) (rd : Reads .i8 w (some xa) nW ws) (hc : nW ≤ cW) (hn : nW ≤ 100000) (hfit : offs (planC ln ne D DD XD UD VD) (1 + ln * pl ne + 2) ≤ nW)
    (hm : b + 3 + 4 * ln ≤ mb) (hv : vb < b) (hB : B0 ≤ vb) (hx : xa.block < B0) :
    Calls Try.prog 32 #[.pointer (some ⟨mb, 0, none⟩), .func (.func 54) #[] #[.pointer (some ⟨vb, 0, none⟩)]] w fun e w' =>
      e = .returned (.tuple #[]) ∧ Filled (planA mb b ln ne) (planC ln ne D DD XD UD VD) (1 + ln * pl ne + 2) nW vb xa.block B0 (w.heap.size + 1) ws (w.alloc (.cells #[.int .i64 (D : Int), .int .i64 h, .int .i64 (ln : Int), .int .i64 v, .int .i64 u, .int .i64 x, .int .i64 t, .int .i64 n] 23)) (1 + ln * pl ne + 2) w' ∧
      Held mb w.heap.size ln ln ne ⟨b + 2, 0, none⟩ (fun i => ⟨b + 4 + 4 * i, 0, none⟩) (fun i => ⟨b + 6 + 4 * i, 0, none⟩) (fun _ => ne) (fun _ => ne) (D : Int) v u x w' := by
  obtain ⟨W0, eW⟩ : ∃ W0, w.alloc (.cells #[.int .i64 (D : Int), .int .i64 h, .int .i64 (ln : Int), .int .i64 v, .int .i64 u, .int .i64 x, .int .i64 t, .int .i64 n] 23) = W0 := ⟨_, rfl⟩
  have bw : Below w.heap.size w W0 := eW ▸ below_new (Below.refl _ w) _
  have qc : Blk 23 W0 w.heap.size #[.int .i64 (D : Int), .int .i64 h, .int .i64 (ln : Int), .int .i64 v, .int .i64 u, .int .i64 x, .int .i64 t, .int .i64 n] := eW ▸ Blk.new 23 w _
  have sW : W0.heap.size = w.heap.size + 1 := by rw [← eW]; simp
  have hmb : mb < w.heap.size := qm.lt
  have hvb : vb < w.heap.size := qv.lt
  have qm0 := qm.kept bw
  have fr0 := fr.of_block (bw.block _ fr.lt)
  have hold : Held mb w.heap.size ln ln ne ⟨b + 2, 0, none⟩ (fun i => ⟨b + 4 + 4 * i, 0, none⟩) (fun i => ⟨b + 6 + 4 * i, 0, none⟩) (fun _ => ne) (fun _ => ne) (D : Int) v u x W0 := held_blank fr0 qm0 qc
  obtain ⟨cnt, ec⟩ : ∃ c, planC ln ne D DD XD UD VD = c := ⟨_, rfl⟩
  obtain ⟨A, eA⟩ : ∃ A, planA mb b ln ne = A := ⟨_, rfl⟩
  obtain ⟨T, eT⟩ : ∃ T, 1 + ln * pl ne + 2 = T := ⟨_, rfl⟩
  have blocks : ∀ j, j < T → B0 ≤ (A j).block ∧ (A j).block < W0.heap.size ∧ (A j).block ≠ vb ∧ xa.block ≠ (A j).block := fun j hj => by
    rw [← eA]
    rw [← eT] at hj
    have lu : ∀ i, i < ln → b + 4 + 4 * i < w.heap.size := fun i hi => (fu i hi).lt
    have ld : ∀ i, i < ln → b + 6 + 4 * i < w.heap.size := fun i hi => (fd i hi).lt
    have lr := fr.lt
    rcases planA_block mb b ln ne j hj with ⟨g, _⟩ | ⟨g, _⟩ | ⟨i, hi, g | g⟩
    · omega
    · omega
    · have := lu i hi; omega
    · have := ld i hi; omega
  have f0 : Filled A cnt T nW vb xa.block B0 (w.heap.size + 1) ws W0 0 W0 := by
    refine ⟨⟨xa, cW, qv.kept bw, rfl, ?_, ?_⟩, fun j hj => by omega, fun j hj => ?_, by omega, fun p y hp _ _ => hp, Below.refl _ _, fun _ _ _ _ => rfl⟩
    · show nW - 0 ≤ cW; omega
    · exact rd.below bw
    · rw [← eA]
      rw [← eT] at hj
      have cm : ∀ o y, (#[.int .i64 (D : Int), .int .i64 h, .int .i64 (ln : Int), .int .i64 v, .int .i64 u, .int .i64 x, .int .i64 t, .int .i64 n, y8, .slice (some ⟨b + 2, 0, none⟩) ln ln, y10, y11] : Array Value)[o]? = some y → (∃ old, W0.cell? ⟨mb, o, none⟩ = some old) ∧ W0.frozen? ⟨mb, o, none⟩ = false := fun o y hy => ⟨⟨_, qm0.cell o hy⟩, qm0.open_ o⟩
      rcases plan_cases ln ne j hj with rfl | ⟨i, r, hi, hr, rfl⟩ | ⟨i, k, hi, hk, rfl | rfl⟩ | rfl | rfl
      · rw [planA_zero]; exact cm 8 y8 rfl
      · rw [planA_list mb b ln ne i r hi hr]; exact ⟨⟨_, fr0.cell (by omega)⟩, fr0.frozen _⟩
      · rw [planA_up mb b ln ne i k hi hk]
        have := (fu i hi).of_block (bw.block _ (fu i hi).lt)
        exact ⟨⟨_, this.cell hk⟩, this.frozen _⟩
      · rw [planA_down mb b ln ne i k hi hk]
        have := (fd i hi).of_block (bw.block _ (fd i hi).lt)
        exact ⟨⟨_, this.cell hk⟩, this.frozen _⟩
      · rw [planA_norm]; exact cm 10 y10 rfl
      · rw [planA_out]; exact cm 11 y11 rfl
  have st : ∀ k, k < T → ∀ (a : Addr) (c : Nat), A k = a → cnt k = c → ∀ W, Filled A cnt T nW vb xa.block B0 (w.heap.size + 1) ws W0 k W → Calls Try.prog 54 #[.pointer (some a), .int .i64 (c : Int), .pointer (some ⟨vb, 0, none⟩)] W.drew fun e W' =>
      e = .returned (.tuple #[]) ∧ Filled A cnt T nW vb xa.block B0 (w.heap.size + 1) ws W0 (k + 1) W' ∧ Held mb w.heap.size ln ln ne ⟨b + 2, 0, none⟩ (fun i => ⟨b + 4 + 4 * i, 0, none⟩) (fun i => ⟨b + 6 + 4 * i, 0, none⟩) (fun _ => ne) (fun _ => ne) (D : Int) v u x W' := fun k hk a c ha hcn W hW => by
    subst ha hcn
    have inj : ∀ i, i < T → ∀ j, j < T → i ≠ j → A i ≠ A j := by rw [← eA, ← eT]; exact planA_inj mb b ln ne hm
    have fits : offs cnt (k + 1) ≤ nW := Nat.le_trans (offs_mono cnt (show k + 1 ≤ T by omega)) (by rw [← eT, ← ec]; exact hfit)
    refine (hW.step hk hn fits inj (fun j hj => (blocks j hj).2.2.1) (fun j hj => ⟨(blocks j hj).1, by have := (blocks j hj).2.1; omega⟩) ⟨hB, by omega⟩ (by omega) (fun j hj => (blocks j hj).2.2.2) (by omega)).mono ?_
    rintro e W' ⟨he, hf⟩
    refine ⟨he, hf, ?_⟩
    rw [← eA, ← eT] at hf
    exact hf.held (D' := 0) hold hm (by omega) hv
  have le : ∀ i, i < ln → 1 + i * pl ne + pl ne ≤ 1 + ln * pl ne := fun i hi => by
    have := Nat.mul_le_mul_right (pl ne) (show i + 1 ≤ ln by omega)
    rw [Nat.add_mul, Nat.one_mul] at this
    omega
  have p7 : pl ne = 7 + 2 * ne := rfl
  have lst : ∀ i, i < ln → ∀ r, r < 7 → A (1 + i * pl ne + r) = ⟨((⟨b + 2, 0, none⟩ : Addr).add (i * 9)).block, ((⟨b + 2, 0, none⟩ : Addr).add (i * 9)).off + r, none⟩ ∧ cnt (1 + i * pl ne + r) = preC D DD XD r ∧ 1 + i * pl ne + r < T := fun i hi r hr => by
    have := le i hi
    rw [at_add, ← eA, ← ec]
    exact ⟨planA_list mb b ln ne i r hi hr, planC_list i r hi hr, by omega⟩
  have := visit_54 (D : Int) h (ln : Int) v u x t n w mb vb ln ln ne ⟨b + 2, 0, none⟩ (fun i => ⟨b + 4 + 4 * i, 0, none⟩) (fun i => ⟨b + 6 + 4 * i, 0, none⟩) (fun _ => ne) (fun _ => ne) (VD : Int) (DD : Int) (XD : Int) (UD : Int) e1 e2 e3 e4 (by rw [Int.mul_comm]; exact e4)
    (wrap_small (by omega)) (wrap_small (by omega)) (wrap_small (by omega)) (wrap_small (by omega)) (by omega) (by omega)
    (fun W => Held mb w.heap.size ln ln ne ⟨b + 2, 0, none⟩ (fun i => ⟨b + 4 + 4 * i, 0, none⟩) (fun i => ⟨b + 6 + 4 * i, 0, none⟩) (fun _ => ne) (fun _ => ne) (D : Int) v u x W) (fun W hW => hW)
    (Filled A cnt T nW vb xa.block B0 (w.heap.size + 1) ws W0 0) (Filled A cnt T nW vb xa.block B0 (w.heap.size + 1) ws W0 (1 + ln * pl ne + 1)) (Filled A cnt T nW vb xa.block B0 (w.heap.size + 1) ws W0 T)
    (fun i m => Filled A cnt T nW vb xa.block B0 (w.heap.size + 1) ws W0 (1 + i * pl ne + m)) (fun i j => Filled A cnt T nW vb xa.block B0 (w.heap.size + 1) ws W0 (1 + i * pl ne + 7 + 2 * j)) (fun i j => Filled A cnt T nW vb xa.block B0 (w.heap.size + 1) ws W0 (1 + i * pl ne + 7 + 2 * j + 1))
    ⟨qm.cell 0 rfl, qm.cell 1 rfl, qm.cell 2 rfl, qm.cell 3 rfl, qm.cell 4 rfl, qm.cell 5 rfl, qm.cell 6 rfl, qm.cell 7 rfl⟩ (eW ▸ f0) (eW ▸ hold)
    (fun W hs _ => by
      have := st 0 (by omega) ⟨mb, 8, none⟩ VD (by rw [← eA]; exact planA_zero mb b ln ne) (by rw [← ec]; rfl) W hs
      simpa using this)
    (fun i hi W hs _ => st _ (lst i hi 0 (by omega)).2.2 _ _ ((lst i hi 0 (by omega)).1.trans (by rw [at_add]; rfl)) (lst i hi 0 (by omega)).2.1 W hs)
    (fun i hi W hs _ => st _ (lst i hi 1 (by omega)).2.2 _ _ (lst i hi 1 (by omega)).1 (lst i hi 1 (by omega)).2.1 W hs)
    (fun i hi W hs _ => st _ (lst i hi 2 (by omega)).2.2 _ _ (lst i hi 2 (by omega)).1 (lst i hi 2 (by omega)).2.1 W hs)
    (fun i hi W hs _ => st _ (lst i hi 3 (by omega)).2.2 _ _ (lst i hi 3 (by omega)).1 (lst i hi 3 (by omega)).2.1 W hs)
    (fun i hi W hs _ => st _ (lst i hi 4 (by omega)).2.2 _ _ (lst i hi 4 (by omega)).1 (lst i hi 4 (by omega)).2.1 W hs)
    (fun i hi W hs _ => st _ (lst i hi 5 (by omega)).2.2 _ _ (lst i hi 5 (by omega)).1 (lst i hi 5 (by omega)).2.1 W hs)
    (fun i hi W hs _ => st _ (lst i hi 6 (by omega)).2.2 _ _ (lst i hi 6 (by omega)).1 (lst i hi 6 (by omega)).2.1 W hs)
    (fun i hi j hj W hs _ => st _ (by have := le i hi; omega) _ _ (by rw [← eA, at_add]; exact planA_up mb b ln ne i j hi hj) (by rw [← ec]; exact planC_up i j hi hj) W hs)
    (fun i hi j hj W hs _ => by
      have := st _ (by have := le i hi; omega) ((⟨b + 6 + 4 * i, 0, none⟩ : Addr).add j) UD (by rw [← eA, at_add]; exact planA_down mb b ln ne i j hi hj) (by rw [← ec]; exact planC_down i j hi hj) W hs
      simpa [Nat.mul_add, Nat.add_assoc] using this)
    (fun i hi W hs => by
      show Filled A cnt T nW vb xa.block B0 (w.heap.size + 1) ws W0 (1 + (i + 1) * pl ne + 0) W
      rw [show 1 + (i + 1) * pl ne + 0 = 1 + i * pl ne + 7 + 2 * ne by rw [Nat.add_mul, Nat.one_mul]; omega]
      exact hs)
    (fun W hs _ => st _ (by omega) _ _ (by rw [← eA]; exact planA_norm mb b ln ne) (by rw [← ec]; exact planC_norm) W hs)
    (fun W hs _ => by
      have := st _ (by omega) ⟨mb, 11, none⟩ VD (by rw [← eA]; exact planA_out mb b ln ne) (by rw [← ec]; exact planC_out) W hs
      rwa [show 1 + ln * pl ne + 1 + 1 = T by omega] at this)
  rw [eW, ec, eA, eT]
  exact this

end Go.Proofs.Ytjbeloljbjfibaa

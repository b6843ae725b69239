/- The copy that shares nothing: Own of any model. -/
import Derived.Test.YtjbeloljbjfibaaRows
import Derived.Test.YtjbeloljbjfibaaLayer8
import Derived.Test.YtjbeloljbjfibaaConf
import Derived.Test.YtjbeloljbjfibaaBlank
import Derived.Test.YtjbeloljbjfibaaCfgRef
import Derived.Test.YtjbeloljbjfibaaSize
import Derived.Test.YtjbeloljbjfibaaSizes
import Derived.Test.YtjbeloljbjfibaaSteps
import Derived.Test.YtjbeloljbjfibaaClo54
import Derived.Test.YtjbeloljbjfibaaFill
import Derived.Test.YtjbeloljbjfibaaMods
import Derived.Test.YtjbeloljbjfibaaFills
import Derived.Test.YtjbeloljbjfibaaShape
import Derived.Test.YtjbeloljbjfibaaShapes
import Derived.Test.YtjbeloljbjfibaaCheck
import Derived.Test.YtjbeloljbjfibaaChecks
import Derived.Test.YtjbeloljbjfibaaDims
import Derived.Test.YtjbeloljbjfibaaFlat
import Derived.Test.YtjbeloljbjfibaaNumbers
import Derived.Test.YtjbeloljbjfibaaPrefix
import Derived.Test.YtjbeloljbjfibaaBody
import Derived.Test.YtjbeloljbjfibaaDecode
import Derived.WalkKit
import Derived.ProofKit
import Derived.OpenShut
import Derived.Below
import Derived.WalkLawsBesides
import Derived.Deep.QuietTactic
import Derived.BigQuiet
import Derived.Deep.RegionWith
import Derived.Deep.RegionHeld3
import Derived.Deep.OwnRows
import Derived.Deep.Slices
import Derived.Test.YtjbeloljbjfibaaTrips
import Derived.Test.YtjbeloljbjfibaaInv
import Derived.Test.YtjbeloljbjfibaaBuild
import Derived.Test.YtjbeloljbjfibaaTypedC
namespace Go.Proofs.Ytjbeloljbjfibaa
open Go.ChangeShapes Go.WideShapes Go.ChangeAt Go.RowKit
set_option linter.unusedVariables false

/-- lists that are not longer than memory -/
structure Fits (m : ModV) : Prop where
  e : m.e.length ≤ 140737488351232
  nm : m.nm.length ≤ 140737488351232
  o : m.o.length ≤ 140737488351232
  ln : m.ln ≤ 20
  f : ∀ i, i < m.ln → ∀ j, j < 7 → (m.f i j).length ≤ 140737488351232
  un : ∀ i, i < m.ln → m.un i * 24 ≤ 140737488351232
  dn : ∀ i, i < m.ln → m.dn i * 24 ≤ 140737488351232
  u : ∀ i, i < m.ln → ∀ j, j < m.un i → (m.u i j).length ≤ 140737488351232
  d : ∀ i, i < m.ln → ∀ j, j < m.dn i → (m.d i j).length ≤ 140737488351232

/-- a block behind a store into it -/
theorem set_blk {t : TypeId} {w : World} {b : Nat} {cs cs' : Array Value} (q : Blk t w b cs) (i : Nat) (v : Value) (e : cs.setIfInBounds i v = cs') : Blk t (w.setCell ⟨b, i, none⟩ v) b cs' := e ▸ q.set i v

def nine (a b c d e f g h i : SL) (r : Nat) : SL := match r with | 0 => a | 1 => b | 2 => c | 3 => d | 4 => e | 5 => f | 6 => g | 7 => h | _ => i

theorem two_stores {W : World} {lb : Nat} {x0 x1 x2 x3 x4 x5 x6 x7 x8 : Value} (q : Blk 59 W lb #[x0, x1, x2, x3, x4, x5, x6, x7, x8]) (a b : Value) : ∃ V7 V8, W.setCell ⟨lb, 7, none⟩ a = V7 ∧ V7.setCell ⟨lb, 8, none⟩ b = V8 ∧ V7.cell? ⟨lb, 8, none⟩ = some x8 ∧ V7.frozen? ⟨lb, 8, none⟩ = false ∧
    Blk 59 V8 lb #[x0, x1, x2, x3, x4, x5, x6, a, b] ∧ Only lb W V8 ∧ Keeps 46 W V8 ∧ Keeps 26 W V8 := by
  have q7 : Blk 59 (W.setCell ⟨lb, 7, none⟩ a) lb #[x0, x1, x2, x3, x4, x5, x6, a, x8] := set_blk q 7 a rfl
  have q8 : Blk 59 ((W.setCell ⟨lb, 7, none⟩ a).setCell ⟨lb, 8, none⟩ b) lb #[x0, x1, x2, x3, x4, x5, x6, a, b] := set_blk q7 8 b rfl
  have on := (Only.set lb 7 W a).trans (Only.set lb 8 _ b)
  exact ⟨_, _, rfl, rfl, q7.cell 8 rfl, q7.open_ 8, q8, on, Keeps.of_only on q (by decide), Keeps.of_only on q (by decide)⟩

set_option maxHeartbeats 16000000 in
set_option maxRecDepth 20000 in
theorem own_walk (d h l v u x t n : Int) (E N O : SL) (La : Option Addr) (ml Lc : Nat) (L : SL) (Y U D : Nat → Nat → SL) (m : ModV) (w : World) (hM : ModAt w E L N O Y U D m) (hF : Fits m) (e1 : L.a = La) (hml : m.ln = ml) :
    Calls Try.prog 13 #[.agg #[.int .i64 d, .int .i64 h, .int .i64 l, .int .i64 v, .int .i64 u, .int .i64 x, .int .i64 t, .int .i64 n, .slice E.a E.n E.c, .slice La ml Lc, .slice N.a N.n N.c, .slice O.a O.n O.c]] w fun e w' => ∃ E' L' N' O' : SL, ∃ Y' U' D', e = .returned (.agg #[.int .i64 d, .int .i64 h, .int .i64 l, .int .i64 v, .int .i64 u, .int .i64 x, .int .i64 t, .int .i64 n, .slice E'.a E'.n E'.c, .slice L'.a L'.n L'.c, .slice N'.a N'.n N'.c, .slice O'.a O'.n O'.c]) ∧ NewM w.heap.size w' E' L' N' O' Y' U' D' m ∧ Below w.heap.size w w' := by
  obtain ⟨W0, eW⟩ : ∃ W0, (w.alloc (.cells #[.int .i64 d, .int .i64 h, .int .i64 l, .int .i64 v, .int .i64 u, .int .i64 x, .int .i64 t, .int .i64 n, .slice E.a E.n E.c, .slice La ml Lc, .slice N.a N.n N.c, .slice O.a O.n O.c] 29)).alloc (.cells #[.int .i64 0, .int .i64 0, .int .i64 0, .int .i64 0, .int .i64 0, .int .i64 0, .int .i64 0, .int .i64 0, (.slice none 0 0), (.slice none 0 0), (.slice none 0 0), (.slice none 0 0)] 29) = W0 := ⟨_, rfl⟩
  have hW0 : W0.heap.size = w.heap.size + 1 + 1 := by rw [← eW]; simp
  have hb : Below w.heap.size w W0 := eW ▸ below_new (below_new (Below.refl _ w) _) _
  have qa : Blk 29 W0 w.heap.size #[.int .i64 d, .int .i64 h, .int .i64 l, .int .i64 v, .int .i64 u, .int .i64 x, .int .i64 t, .int .i64 n, .slice E.a E.n E.c, .slice La ml Lc, .slice N.a N.n N.c, .slice O.a O.n O.c] := eW ▸ (Blk.new 29 w _).kept (below_new (Below.refl _ _) _)
  have qb : Blk 29 W0 (w.heap.size + 1) #[.int .i64 0, .int .i64 0, .int .i64 0, .int .i64 0, .int .i64 0, .int .i64 0, .int .i64 0, .int .i64 0, (.slice none 0 0), (.slice none 0 0), (.slice none 0 0), (.slice none 0 0)] := eW ▸ Blk.new_at 29 (w.alloc _) _ _ (by simp)
  have hs0 := hb.size
  -- what each copy of a list of the model finds and leaves
  have step : ∀ (W : World) (cs : Array Value), Below w.heap.size w W → Blk 29 W w.heap.size cs → Blk 29 W (w.heap.size + 1) #[.int .i64 0, .int .i64 0, .int .i64 0, .int .i64 0, .int .i64 0, .int .i64 0, .int .i64 0, .int .i64 0, (.slice none 0 0), (.slice none 0 0), (.slice none 0 0), (.slice none 0 0)] → ∃ A, W.alloc (.cells #[] 46) = A ∧ Below w.heap.size w A ∧ Blk 29 A w.heap.size cs ∧ Blk 29 A (w.heap.size + 1) #[.int .i64 0, .int .i64 0, .int .i64 0, .int .i64 0, .int .i64 0, .int .i64 0, .int .i64 0, .int .i64 0, (.slice none 0 0), (.slice none 0 0), (.slice none 0 0), (.slice none 0 0)] ∧ Blk 46 A W.heap.size #[] ∧ w.heap.size ≤ W.heap.size ∧ Below W.heap.size W A := fun W cs h1 h2 h3 =>
    ⟨_, rfl, below_new h1 _, h2.kept (below_new (Below.refl _ _) _), h3.kept (below_new (Below.refl _ _) _), Blk.new 46 W #[], h1.size, below_new (Below.refl _ _) _⟩
  have put : ∀ (W : World) (cs cs' : Array Value) (i : Nat) (v : Value), Below w.heap.size w W → Blk 29 W w.heap.size cs → Blk 29 W (w.heap.size + 1) #[.int .i64 0, .int .i64 0, .int .i64 0, .int .i64 0, .int .i64 0, .int .i64 0, .int .i64 0, .int .i64 0, (.slice none 0 0), (.slice none 0 0), (.slice none 0 0), (.slice none 0 0)] → cs.setIfInBounds i v = cs' → ∃ V, W.setCell ⟨w.heap.size, i, none⟩ v = V ∧ Below w.heap.size w V ∧ Blk 29 V w.heap.size cs' ∧ Blk 29 V (w.heap.size + 1) #[.int .i64 0, .int .i64 0, .int .i64 0, .int .i64 0, .int .i64 0, .int .i64 0, .int .i64 0, .int .i64 0, (.slice none 0 0), (.slice none 0 0), (.slice none 0 0), (.slice none 0 0)] ∧ Keeps 46 W V := fun W cs cs' i v h1 h2 h3 e =>
    ⟨_, rfl, h1.setCell (Nat.le_refl _) _, set_blk h2 i v e, h3.other _ (by simp), Keeps.of_only (Only.set _ _ _ _) h2 (by decide)⟩
  have STEP := hidden_ step
  have PUT := hidden_ put
  have HM := hidden_ hM
  have HF := hidden_ hF
  have HL := hidden_ (And.intro e1 hml)
  obtain ⟨A1, eA1, bA1, pa, pb, pg, pl', pbb⟩ := step W0 _ hb qa qb
  clear step put hM hF e1 hml qa qb hs0 hW0
  obtain ⟨a0, a1, a2, a3, a4, a5, a6, a7, a8, a9, a10, a11⟩ := pa.c12
  go_enter Try.func13, Try.ntmps13
  go_wp2_with (first
    | (at_builtin; refine wpList_copy_ts rfl (.tmp 10) (.tmp 12) rfl w.heap.size W0.heap.size E m.e rfl rfl (HM.out.below bA1).e (by have := HF.out.e; omega) pl' pg bA1.size ?_; intro E' w1 h1 tE; obtain ⟨V1, eV1, bV1, qa, qb, kV1⟩ := PUT.out w1 _ #[.int .i64 d, .int .i64 h, .int .i64 l, .int .i64 v, .int .i64 u, .int .i64 x, .int .i64 t, .int .i64 n, .slice E'.a E'.n E'.c, .slice La ml Lc, .slice N.a N.n N.c, .slice O.a O.n O.c] 8 (.slice E'.a E'.n E'.c) (below_then bA1 h1) (pa.kept h1) (pb.kept h1) rfl; replace tE := tE.step kV1; have z8 := (pa.kept h1).cell 8 rfl; have o8 := (pa.kept h1).open_ 8; obtain ⟨A2, eA2, bA2, pa2, pb2, pg2, pl2, pbb2⟩ := STEP.out V1 _ bV1 qa qb; replace tE := tE.below pbb2; clear pa pb pg pl' pbb h1 kV1 qa qb eA1 eW a0 a1 a2 a3 a4 a5 a6 a7 a8 a9 a10 a11; obtain ⟨a0, a1, a2, a3, a4, a5, a6, a7, a8, a9, a10, a11⟩ := pa2.c12)
    | (at_builtin; refine wpList_copy_ts rfl (.tmp 15) (.tmp 17) rfl w.heap.size V1.heap.size N m.nm rfl rfl (HM.out.below bA2).nm (by have := HF.out.nm; omega) pl2 pg2 bA2.size ?_; intro N' w2 h2 tN; obtain ⟨V2, eV2, bV2, qa, qb, kV2⟩ := PUT.out w2 _ #[.int .i64 d, .int .i64 h, .int .i64 l, .int .i64 v, .int .i64 u, .int .i64 x, .int .i64 t, .int .i64 n, .slice E'.a E'.n E'.c, .slice La ml Lc, .slice N'.a N'.n N'.c, .slice O.a O.n O.c] 10 (.slice N'.a N'.n N'.c) (below_then bA2 h2) (pa2.kept h2) (pb2.kept h2) rfl; replace tE := (tE.below h2).step kV2; replace tN := tN.step kV2; have z10 := (pa2.kept h2).cell 10 rfl; have o10 := (pa2.kept h2).open_ 10; obtain ⟨A3, eA3, bA3, pa3, pb3, pg3, pl3, pbb3⟩ := STEP.out V2 _ bV2 qa qb; replace tE := tE.below pbb3; replace tN := tN.below pbb3; clear pa2 pb2 pg2 pl2 pbb2 h2 kV2 qa qb eA2 z8 o8 eV1 a0 a1 a2 a3 a4 a5 a6 a7 a8 a9 a10 a11; obtain ⟨a0, a1, a2, a3, a4, a5, a6, a7, a8, a9, a10, a11⟩ := pa3.c12)
    | (at_builtin; refine wpList_copy_ts rfl (.tmp 20) (.tmp 22) rfl w.heap.size V2.heap.size O m.o rfl rfl (HM.out.below bA3).o (by have := HF.out.o; omega) pl3 pg3 bA3.size ?_; intro O' w3 h3 tO; obtain ⟨V3, eV3, bV3, qa, qb, kV3⟩ := PUT.out w3 _ #[.int .i64 d, .int .i64 h, .int .i64 l, .int .i64 v, .int .i64 u, .int .i64 x, .int .i64 t, .int .i64 n, .slice E'.a E'.n E'.c, .slice La ml Lc, .slice N'.a N'.n N'.c, .slice O'.a O'.n O'.c] 11 (.slice O'.a O'.n O'.c) (below_then bA3 h3) (pa3.kept h3) (pb3.kept h3) rfl; replace tE := (tE.below h3).step kV3; replace tN := (tN.below h3).step kV3; replace tO := tO.step kV3; have z11 := (pa3.kept h3).cell 11 rfl; have o11 := (pa3.kept h3).open_ 11; clear pa3 pb3 pg3 pl3 pbb3 h3 kV3 eA3 z10 o10 eV2 a0 a1 a2 a3 a4 a5 a6 a7 a8 a9 a10 a11; obtain ⟨a0, a1, a2, a3, a4, a5, a6, a7, a8, a9, a10, a11⟩ := qa.c12))
  have s3 := bV3.size
  have HV := hidden_ (And.intro bV3 (And.intro qa (And.intro qb (And.intro tE (And.intro tN tO)))))
  have Hml : ml ≤ 20 := by have := HF.out.ln; have := HL.out.2; omega
  clear a0 a1 a2 a3 a4 a5 a6 a7 a8 a9 a10 a11 z11 o11 eV3 bA1 bV1 bA2 bV2 bA3 qa qb tE tN tO bV3 hb STEP PUT
  go_loopw [3, 4, 5, 6, 7, 8, 9] (fun v3 i _ _ _ _ _ wr => ∃ k : Nat, k ≤ ml ∧ i = .int .i64 k ∧ Below V3.heap.size V3 wr ∧ ∃ Y' U' D' : Nat → Nat → SL, TL V3.heap.size wr v3 k Y' U' D' m) (fun _ i _ _ _ _ _ _ => ml - (intOf i).toNat)
  case atStart => exact ⟨0, Nat.zero_le _, rfl, Below.refl _ _, fun _ _ => SL.nought, fun _ _ => SL.nought, fun _ _ => SL.nought, TL.nil _ _ _ _ _ _⟩
  case round =>
    obtain ⟨k, hk, rfl, hbr, Y', U', D', tL⟩ := hrel
    obtain ⟨WR, eWR⟩ : ∃ WR, WR = wr := ⟨_, rfl⟩
    subst eWR
    obtain ⟨bV3, qa, qb, tE, tN, tO⟩ := HV.out
    have hbw := below_then bV3 hbr
    obtain ⟨a0, a1, a2, a3, a4, a5, a6, a7, a8, a9, a10, a11⟩ := (qa.kept hbr).c12
    by_cases hlt : k < ml
    · have hMr := HM.out.below hbw
      have hkm : k < m.ln := by rw [HL.out.2]; exact hlt
      obtain ⟨x0, hx0⟩ := hMr.some_ (by omega)
      obtain rfl : La = some x0 := HL.out.1.symm.trans hx0
      have la := hMr.lay k hkm
      obtain ⟨P, eP, p0, p1, p2, p3, p4, p5, p6, p7, p8⟩ := at_nine (fun j hj => hMr.cell x0 hx0 k hkm j hj)
      have hlt' : (k : Int) < (ml : Int) := by omega
      have srs := hbr.size
      have HB := hidden_ (And.intro hbw hbr)
      have HLA := hidden_ la
      have HT := hidden_ tL
      have HS := hidden_ srs
      clear hMr hbw hbr la tL bV3 qa qb tE tN tO srs
      go_wp2
      have q5 := Blk.new 59 WR #[.slice (Y k 0).a (Y k 0).n (Y k 0).c, .slice (Y k 1).a (Y k 1).n (Y k 1).c, .slice (Y k 2).a (Y k 2).n (Y k 2).c, .slice (Y k 3).a (Y k 3).n (Y k 3).c, .slice (Y k 4).a (Y k 4).n (Y k 4).c, .slice (Y k 5).a (Y k 5).n (Y k 5).c, .slice (Y k 6).a (Y k 6).n (Y k 6).c, .slice (Y k 7).a (Y k 7).n (Y k 7).c, .slice (Y k 8).a (Y k 8).n (Y k 8).c]
      obtain ⟨W1, e1⟩ : ∃ W1, WR.alloc (.cells #[.slice (Y k 0).a (Y k 0).n (Y k 0).c, .slice (Y k 1).a (Y k 1).n (Y k 1).c, .slice (Y k 2).a (Y k 2).n (Y k 2).c, .slice (Y k 3).a (Y k 3).n (Y k 3).c, .slice (Y k 4).a (Y k 4).n (Y k 4).c, .slice (Y k 5).a (Y k 5).n (Y k 5).c, .slice (Y k 6).a (Y k 6).n (Y k 6).c, .slice (Y k 7).a (Y k 7).n (Y k 7).c, .slice (Y k 8).a (Y k 8).n (Y k 8).c] 59) = W1 := ⟨_, rfl⟩
      have bW1 : Below WR.heap.size WR W1 := e1 ▸ below_new (Below.refl _ _) _
      rw [e1] at q5 ⊢
      have la1 := HLA.out.below bW1
      have far : ∀ j, j < 7 → ∀ x, (Y k j).a = some x → 0 < (Y k j).n → x.block ≠ WR.heap.size := fun j hj x hx h0 => by
        have c := (HLA.out.f j hj).reads.cell x hx 0 h0
        have := World.block_lt_of_cell? _ _ c
        simp [Addr.add] at this
        omega
      clear e1 p0 p1 p2 p3 p4 p5 p6 p7 p8 a0 a1 a2 a3 a4 a5 a6 a7 a8 a9 a10 a11
      refine copies_region 3 37 0 WR.heap.size (Y k) (m.f k) (fun f => (Y k f).v) #[.slice (Y k 0).a (Y k 0).n (Y k 0).c, .slice (Y k 1).a (Y k 1).n (Y k 1).c, .slice (Y k 2).a (Y k 2).n (Y k 2).c, .slice (Y k 3).a (Y k 3).n (Y k 3).c, .slice (Y k 4).a (Y k 4).n (Y k 4).c, .slice (Y k 5).a (Y k 5).n (Y k 5).c, .slice (Y k 6).a (Y k 6).n (Y k 6).c, .slice (Y k 7).a (Y k 7).n (Y k 7).c, .slice (Y k 8).a (Y k 8).n (Y k 8).c] (by kernel_rfl) rfl (fun j hj => by rcases (show j = 0 ∨ j = 1 ∨ j = 2 by omega) with rfl | rfl | rfl <;> exact ⟨⟨_, rfl, rfl, rfl, rfl, by kernel_rfl⟩, ⟨_, rfl, rfl, rfl, rfl, by kernel_rfl⟩, ⟨_, rfl, rfl, rfl, rfl, by kernel_rfl⟩, ⟨_, rfl, rfl, rfl, rfl, by kernel_rfl⟩, ⟨_, rfl, rfl, rfl, rfl, by kernel_rfl⟩, ⟨_, rfl, rfl, rfl, rfl, by kernel_rfl⟩⟩) rfl (by decide) (Nat.le_of_ble_eq_true rfl) (by decide) q5 rfl
        (fun f hf => by rcases (show f = 0 ∨ f = 1 ∨ f = 2 ∨ f = 3 ∨ f = 4 ∨ f = 5 ∨ f = 6 ∨ f = 7 ∨ f = 8 by omega) with rfl | rfl | rfl | rfl | rfl | rfl | rfl | rfl | rfl <;> rfl)
        (fun j hj => ⟨by rw [Nat.zero_add], la1.f j (by omega), by have := HF.out.f k hkm j (by omega); omega, far j (by omega)⟩) ?_
      intro a W2 S cs hs hd hkp honly hq hcz hcell hts
      obtain rfl := arr9 hcz hcell
      have q9 : Blk 59 W2 WR.heap.size #[.slice (S 0).a (S 0).n (S 0).c, .slice (S 1).a (S 1).n (S 1).c, .slice (S 2).a (S 2).n (S 2).c, .slice (Y k 3).a (Y k 3).n (Y k 3).c, .slice (Y k 4).a (Y k 4).n (Y k 4).c, .slice (Y k 5).a (Y k 5).n (Y k 5).c, .slice (Y k 6).a (Y k 6).n (Y k 6).c, .slice (Y k 7).a (Y k 7).n (Y k 7).c, .slice (Y k 8).a (Y k 8).n (Y k 8).c] := hq
      have bW2 : Below WR.heap.size WR W2 := Only.below bW1 (Nat.le_refl _) bW1.size honly
      have ep := frame_puts [37, 38, 39, 40, 41, 42, 43, 44, 45, 46, 47, 48, 49, 50, 51] hs hd (fun s h => hkp s (by simp at h; omega))
      simp only [List.foldl] at ep
      clear hs hd hkp hq hcz hcell
      generalize a.tmps.getD 37 undef = g37 at ep
      generalize a.tmps.getD 38 undef = g38 at ep
      generalize a.tmps.getD 39 undef = g39 at ep
      generalize a.tmps.getD 40 undef = g40 at ep
      generalize a.tmps.getD 41 undef = g41 at ep
      generalize a.tmps.getD 42 undef = g42 at ep
      generalize a.tmps.getD 43 undef = g43 at ep
      generalize a.tmps.getD 44 undef = g44 at ep
      generalize a.tmps.getD 45 undef = g45 at ep
      generalize a.tmps.getD 46 undef = g46 at ep
      generalize a.tmps.getD 47 undef = g47 at ep
      generalize a.tmps.getD 48 undef = g48 at ep
      generalize a.tmps.getD 49 undef = g49 at ep
      generalize a.tmps.getD 50 undef = g50 at ep
      generalize a.tmps.getD 51 undef = g51 at ep
      simp only [Act.put, List.setIfInBounds_toArray, List.set_cons_succ, List.set_cons_zero] at ep
      subst ep
      have la2 := HLA.out.below bW2
      have t0 := (hts 0 (by decide)).le bW1.size
      have t1 := (hts 1 (by decide)).le bW1.size
      have t2 := (hts 2 (by decide)).le bW1.size
      clear la1 hts honly q5 bW1
      go_wp2
      refine copies_region 4 52 3 WR.heap.size (fun j => Y k (3 + j)) (fun j => m.f k (3 + j)) (fun f => if f < 3 then (S f).v else (Y k f).v) #[.slice (S 0).a (S 0).n (S 0).c, .slice (S 1).a (S 1).n (S 1).c, .slice (S 2).a (S 2).n (S 2).c, .slice (Y k 3).a (Y k 3).n (Y k 3).c, .slice (Y k 4).a (Y k 4).n (Y k 4).c, .slice (Y k 5).a (Y k 5).n (Y k 5).c, .slice (Y k 6).a (Y k 6).n (Y k 6).c, .slice (Y k 7).a (Y k 7).n (Y k 7).c, .slice (Y k 8).a (Y k 8).n (Y k 8).c] (by kernel_rfl) rfl (fun j hj => by rcases (show j = 0 ∨ j = 1 ∨ j = 2 ∨ j = 3 by omega) with rfl | rfl | rfl | rfl <;> exact ⟨⟨_, rfl, rfl, rfl, rfl, by kernel_rfl⟩, ⟨_, rfl, rfl, rfl, rfl, by kernel_rfl⟩, ⟨_, rfl, rfl, rfl, rfl, by kernel_rfl⟩, ⟨_, rfl, rfl, rfl, rfl, by kernel_rfl⟩, ⟨_, rfl, rfl, rfl, rfl, by kernel_rfl⟩, ⟨_, rfl, rfl, rfl, rfl, by kernel_rfl⟩⟩) rfl (by decide) (Nat.le_of_ble_eq_true rfl) (by decide) q9 rfl
        (fun f hf => by rcases (show f = 0 ∨ f = 1 ∨ f = 2 ∨ f = 3 ∨ f = 4 ∨ f = 5 ∨ f = 6 ∨ f = 7 ∨ f = 8 by omega) with rfl | rfl | rfl | rfl | rfl | rfl | rfl | rfl | rfl <;> rfl)
        (fun j hj => ⟨if_neg (by omega), la2.f (3 + j) (by omega), by have := HF.out.f k hkm (3 + j) (by omega); omega, far (3 + j) (by omega)⟩) ?_
      intro a W3 T cs hs hd hkp honly hq hcz hcell hts
      obtain rfl := arr9 hcz hcell
      have q10 : Blk 59 W3 WR.heap.size #[.slice (S 0).a (S 0).n (S 0).c, .slice (S 1).a (S 1).n (S 1).c, .slice (S 2).a (S 2).n (S 2).c, .slice (T 0).a (T 0).n (T 0).c, .slice (T 1).a (T 1).n (T 1).c, .slice (T 2).a (T 2).n (T 2).c, .slice (T 3).a (T 3).n (T 3).c, .slice (Y k 7).a (Y k 7).n (Y k 7).c, .slice (Y k 8).a (Y k 8).n (Y k 8).c] := hq
      have bW3 : Below WR.heap.size WR W3 := Only.below bW2 (Nat.le_refl _) bW2.size honly
      have ep := frame_puts [52, 53, 54, 55, 56, 57, 58, 59, 60, 61, 62, 63, 64, 65, 66, 67, 68, 69, 70, 71] hs hd (fun s h => hkp s (by simp at h; omega))
      simp only [List.foldl] at ep
      have kp : Keeps 46 W2 W3 := Keeps.of_only honly q9 (by decide)
      clear hs hd hkp hq hcz hcell
      generalize a.tmps.getD 52 undef = g52 at ep
      generalize a.tmps.getD 53 undef = g53 at ep
      generalize a.tmps.getD 54 undef = g54 at ep
      generalize a.tmps.getD 55 undef = g55 at ep
      generalize a.tmps.getD 56 undef = g56 at ep
      generalize a.tmps.getD 57 undef = g57 at ep
      generalize a.tmps.getD 58 undef = g58 at ep
      generalize a.tmps.getD 59 undef = g59 at ep
      generalize a.tmps.getD 60 undef = g60 at ep
      generalize a.tmps.getD 61 undef = g61 at ep
      generalize a.tmps.getD 62 undef = g62 at ep
      generalize a.tmps.getD 63 undef = g63 at ep
      generalize a.tmps.getD 64 undef = g64 at ep
      generalize a.tmps.getD 65 undef = g65 at ep
      generalize a.tmps.getD 66 undef = g66 at ep
      generalize a.tmps.getD 67 undef = g67 at ep
      generalize a.tmps.getD 68 undef = g68 at ep
      generalize a.tmps.getD 69 undef = g69 at ep
      generalize a.tmps.getD 70 undef = g70 at ep
      generalize a.tmps.getD 71 undef = g71 at ep
      simp only [Act.put, List.setIfInBounds_toArray, List.set_cons_succ, List.set_cons_zero] at ep
      subst ep
      replace t0 := t0.step kp
      replace t1 := t1.step kp
      replace t2 := t2.step kp
      have t3 := (hts 0 (by decide)).le bW2.size
      have t4 := (hts 1 (by decide)).le bW2.size
      have t5 := (hts 2 (by decide)).le bW2.size
      have t6 := (hts 3 (by decide)).le bW2.size
      have la3 := HLA.out.below bW3
      clear la2 hts honly q9 bW2 kp far
      obtain ⟨lb, elb⟩ : ∃ lb, WR.heap.size = lb := ⟨_, rfl⟩
      rw [elb] at q10 ⊢
      have ELB := hidden_ elb
      clear elb
      go_wp2
      have lenu := la3.u.len
      obtain ⟨un, eun⟩ : ∃ z, m.un k = z := ⟨_, rfl⟩
      go_loopw [6, 8] (fun v i wr => ∃ j : Nat, j ≤ un ∧ i = .int .i64 j ∧ Below W3.heap.size W3 wr ∧ ∃ R : Nat → SL, TG W3.heap.size wr v j R (m.u k)) (fun _ i _ => un - (intOf i).toNat)
      case atStart => exact ⟨0, Nat.zero_le _, rfl, Below.refl _ _, fun _ => SL.nought, TG.nil _ _ _ _⟩
      case round =>
        obtain ⟨j, hj, rfl, hb2, Ru, tG⟩ := hrel
        have sB := hb2.size
        by_cases hlt2 : j < un
        · have la := la3.below hb2
          obtain ⟨x7, hx7⟩ := la.u.some_ (by omega)
          have q := q10.kept hb2
          rw [hx7, lenu, eun] at q
          have hlt2' : (j : Int) < (un : Int) := by omega
          have hun24 := HF.out.un k hkm
          rw [eun] at hun24
          have hun63 : un ≤ 9223372036854775807 := by omega
          have cf := q.cell 7 rfl
          obtain ⟨A, eA⟩ : ∃ A, wr.alloc (.cells #[] 46) = A := ⟨_, rfl⟩
          have bA : Below wr.heap.size wr A := eA ▸ below_new (Below.refl _ _) _
          have gA : Blk 46 A wr.heap.size #[] := eA ▸ Blk.new 46 wr #[]
          have cfA := (q.kept bA).cell 7 rfl
          have cU := (la.u.below bA).cell x7 hx7 j (by omega)
          have cU' : A.cell? (x7.add j) = some (.slice (U k j).a (U k j).n (U k j).c) := cU
          have isU := (la.u.below bA).row j (by omega)
          have fU := HF.out.u k hkm j (by omega)
          clear cU la q hx7 lenu eun
          go_wp2_with (first
            | (at_builtin; refine wpList_copy_ts rfl (.tmp 80) (.tmp 85) rfl W3.heap.size wr.heap.size (U k j) (m.u k j) rfl rfl isU (by omega) sB gA (Nat.le_trans sB bA.size) ?_; intro s' w4 h4 ts4; obtain ⟨A2, eA2⟩ : ∃ A2, w4.alloc (.cells #[.slice s'.a s'.n s'.c] 26) = A2 := ⟨_, rfl⟩; have bA2 : Below w4.heap.size w4 A2 := eA2 ▸ below_new (Below.refl _ _) _; have gA2 : Blk 26 A2 w4.heap.size #[.slice s'.a s'.n s'.c] := eA2 ▸ Blk.new 26 w4 _; have cA2 : A2.cell? ⟨w4.heap.size, 0, none⟩ = some s'.v := gA2.cell 0 rfl; have bb := below_then (below_then bA h4) bA2; have tG2 := tG.below (B' := 0) bb; replace ts4 := ts4.below bA2; clear bA gA cfA cU' isU fU eA h4 bA2 gA2)
            | (at_builtin; refine wpList_push rfl (.tmp 79) (.tmp 87) rfl W3.heap.size j _ Ru (m.u k) s' w4.heap.size 1 rfl rfl tG2 cA2 ts4 (by omega) (Nat.le_trans sB bb.size) ?_; intro v' w5 hb5 _ _ tG5; have hbE := (below_then hb2 bb).trans hb5; clear hb5 bb tG2 cA2 ts4 eA2))
          go_roundw
          case rel => exact ⟨j + 1, by omega, by go_num, hbE, _, tG5⟩
          case measure => simp [intOf]; omega
        · obtain rfl : un = j := by omega
          have bWu := hb2
          have qu := q10.kept hb2
          have cf := qu.cell 7 rfl
          rw [lenu, eun] at cf
          have hun24 := HF.out.un k hkm
          rw [eun] at hun24
          have hun63 : un ≤ 9223372036854775807 := by omega
          have tGu := tG
          clear tG
          rw [lenu, eun] at qu
          have la4 := la3.below hb2
          obtain ⟨W4, eW4⟩ : ∃ W4, W4 = wr := ⟨_, rfl⟩
          subst eW4
          have HX := hidden_ (And.intro lenu (And.intro eun tGu))
          clear lenu eun tGu hb2 hj hlt2 sB hun24 hun63 la3
          go_wp2
          have lend := la4.d.len
          obtain ⟨dn, edn⟩ : ∃ z, m.dn k = z := ⟨_, rfl⟩
          go_loopw [7, 9] (fun v i wr => ∃ j : Nat, j ≤ dn ∧ i = .int .i64 j ∧ Below W4.heap.size W4 wr ∧ ∃ R : Nat → SL, TG W4.heap.size wr v j R (m.d k)) (fun _ i _ => dn - (intOf i).toNat)
          case atStart => exact ⟨0, Nat.zero_le _, rfl, Below.refl _ _, fun _ => SL.nought, TG.nil _ _ _ _⟩
          case round =>
            obtain ⟨j, hj, rfl, hb2, Rd, tG⟩ := hrel
            have sB := hb2.size
            by_cases hlt2 : j < dn
            · have la := la4.below hb2
              obtain ⟨x7, hx7⟩ := la.d.some_ (by omega)
              have q := qu.kept hb2
              rw [hx7, lend, edn] at q
              have hlt2' : (j : Int) < (dn : Int) := by omega
              have hun24 := HF.out.dn k hkm
              rw [edn] at hun24
              have hun63 : dn ≤ 9223372036854775807 := by omega
              have cf := q.cell 8 rfl
              obtain ⟨A, eA⟩ : ∃ A, wr.alloc (.cells #[] 46) = A := ⟨_, rfl⟩
              have bA : Below wr.heap.size wr A := eA ▸ below_new (Below.refl _ _) _
              have gA : Blk 46 A wr.heap.size #[] := eA ▸ Blk.new 46 wr #[]
              have cfA := (q.kept bA).cell 8 rfl
              have cU := (la.d.below bA).cell x7 hx7 j (by omega)
              have cU' : A.cell? (x7.add j) = some (.slice (D k j).a (D k j).n (D k j).c) := cU
              have isU := (la.d.below bA).row j (by omega)
              have fU := HF.out.d k hkm j (by omega)
              clear cU la q hx7 lend edn
              go_wp2_with (first
                | (at_builtin; refine wpList_copy_ts rfl (.tmp 97) (.tmp 102) rfl W4.heap.size wr.heap.size (D k j) (m.d k j) rfl rfl isU (by omega) sB gA (Nat.le_trans sB bA.size) ?_; intro s' w4 h4 ts4; obtain ⟨A2, eA2⟩ : ∃ A2, w4.alloc (.cells #[.slice s'.a s'.n s'.c] 26) = A2 := ⟨_, rfl⟩; have bA2 : Below w4.heap.size w4 A2 := eA2 ▸ below_new (Below.refl _ _) _; have gA2 : Blk 26 A2 w4.heap.size #[.slice s'.a s'.n s'.c] := eA2 ▸ Blk.new 26 w4 _; have cA2 : A2.cell? ⟨w4.heap.size, 0, none⟩ = some s'.v := gA2.cell 0 rfl; have bb := below_then (below_then bA h4) bA2; have tG2 := tG.below (B' := 0) bb; replace ts4 := ts4.below bA2; clear bA gA cfA cU' isU fU eA h4 bA2 gA2)
                | (at_builtin; refine wpList_push rfl (.tmp 96) (.tmp 104) rfl W4.heap.size j _ Rd (m.d k) s' w4.heap.size 1 rfl rfl tG2 cA2 ts4 (by omega) (Nat.le_trans sB bb.size) ?_; intro v' w5 hb5 _ _ tG5; have hbE := (below_then hb2 bb).trans hb5; clear hb5 bb tG2 cA2 ts4 eA2))
              go_roundw
              case rel => exact ⟨j + 1, by omega, by go_num, hbE, _, tG5⟩
              case measure => simp [intOf]; omega
            · obtain rfl : dn = j := by omega
              have bWd := hb2
              have qd := qu.kept hb2
              have cf := qd.cell 8 rfl
              rw [lend, edn] at cf
              have hun24 := HF.out.dn k hkm
              rw [edn] at hun24
              have hun63 : dn ≤ 9223372036854775807 := by omega
              have tGd := tG
              clear tG
              obtain ⟨W5, eW5⟩ : ∃ W5, W5 = wr := ⟨_, rfl⟩
              subst eW5
              obtain ⟨lenu, eun, tGu⟩ := HX.out
              obtain ⟨sU, eU, -⟩ := (tGu.below (B' := 0) bWd).new
              obtain ⟨sD, eD, -⟩ := tGd.new
              have eU2 : _ = Value.slice sU.a sU.n sU.c := eU
              have eD2 : _ = Value.slice sD.a sD.n sD.c := eD
              subst eU2
              subst eD2
              obtain ⟨V7, V8, eV7, eV8, z8, o8, q8, on8, k46, k26⟩ := two_stores qd (.slice sU.a sU.n sU.c) (.slice sD.a sD.n sD.c)
              have z7 := qd.cell 7 rfl
              have o7 := qd.open_ 7
              obtain ⟨A3, eA3⟩ : ∃ A, V8.alloc (.cells #[.slice (S 0).a (S 0).n (S 0).c, .slice (S 1).a (S 1).n (S 1).c, .slice (S 2).a (S 2).n (S 2).c, .slice (T 0).a (T 0).n (T 0).c, .slice (T 1).a (T 1).n (T 1).c, .slice (T 2).a (T 2).n (T 2).c, .slice (T 3).a (T 3).n (T 3).c, .slice sU.a sU.n sU.c, .slice sD.a sD.n sD.c] 59) = A := ⟨_, rfl⟩
              have bA3 : Below V8.heap.size V8 A3 := eA3 ▸ below_new (Below.refl _ _) _
              have gA3 : Blk 59 A3 V8.heap.size #[.slice (S 0).a (S 0).n (S 0).c, .slice (S 1).a (S 1).n (S 1).c, .slice (S 2).a (S 2).n (S 2).c, .slice (T 0).a (T 0).n (T 0).c, .slice (T 1).a (T 1).n (T 1).c, .slice (T 2).a (T 2).n (T 2).c, .slice (T 3).a (T 3).n (T 3).c, .slice sU.a sU.n sU.c, .slice sD.a sD.n sD.c] := eA3 ▸ Blk.new 59 V8 _
              have b5 : Below lb WR W5 := by rw [← ELB.out]; exact below_then (below_then bW3 bWu) bWd
              have b8 : Below lb WR V8 := by
                refine Only.below b5 (Nat.le_refl _) ?_ on8
                rw [← ELB.out]; exact (below_then (below_then bW3 bWu) bWd).size
              have bA : Below WR.heap.size WR A3 := below_then (by rw [ELB.out]; exact b8) bA3
              have K46 : Keeps 46 W3 A3 := ((Keeps.of_below (below_then bWu bWd)).trans k46).trans (Keeps.of_below bA3)
              have tU := (((tGu.below (B' := 0) bWd).step k46 k26).below (B' := 0) bA3).le (Nat.le_trans HS.out bW3.size)
              have tD := ((tGd.step k46 k26).below (B' := 0) bA3).le (Nat.le_trans (Nat.le_trans HS.out bW3.size) bWu.size)
              have tL := HT.out.below bA
              have s0 := (t0.step K46).le HS.out
              have s1 := (t1.step K46).le HS.out
              have s2 := (t2.step K46).le HS.out
              have s3' := (t3.step K46).le HS.out
              have s4 := (t4.step K46).le HS.out
              have s5 := (t5.step K46).le HS.out
              have s6 := (t6.step K46).le HS.out
              rw [← eun] at tU
              rw [← edn] at tD
              have hY : TY V3.heap.size A3 (nine (S 0) (S 1) (S 2) (T 0) (T 1) (T 2) (T 3) sU sD) Ru Rd (m.f k) (m.un k) (m.dn k) (m.u k) (m.d k) := ⟨fun j hj => by rcases (show j = 0 ∨ j = 1 ∨ j = 2 ∨ j = 3 ∨ j = 4 ∨ j = 5 ∨ j = 6 by omega) with rfl | rfl | rfl | rfl | rfl | rfl | rfl <;> assumption, tU, tD⟩
              have gA : Blk 59 A3 V8.heap.size ((List.range 9).map fun r => (nine (S 0) (S 1) (S 2) (T 0) (T 1) (T 2) (T 3) sU sD r).v).toArray := gA3
              have c0 := q8.cell 0 rfl
              have c1 := q8.cell 1 rfl
              have c2 := q8.cell 2 rfl
              have c3 := q8.cell 3 rfl
              have c4 := q8.cell 4 rfl
              have c5 := q8.cell 5 rfl
              have c6 := q8.cell 6 rfl
              have c7 := q8.cell 7 rfl
              have c8 := q8.cell 8 rfl
              have hbE := below_then HB.out.2 bA
              clear tU tD s0 s1 s2 s3' s4 s5 s6 t0 t1 t2 t3 t4 t5 t6 tGu tGd eU eD b5 b8 bA K46 k46 k26 on8 bA3 gA3 lenu eun lend edn HX hlt2 hj hun24 la4 bWu bWd bW3 qu
              go_wp2_with (first
                | (at_builtin; refine wpList_layer rfl (.tmp 110) (.tmp 112) rfl V3.heap.size k _ Y' U' D' m _ Ru Rd V8.heap.size 1 rfl rfl tL gA hY (by omega) hbE.size ?_; intro v' w6 hb6 tL6; have hbF := hbE.trans hb6; clear hb6 tL gA hY hbE))
              go_roundw
              case rel => exact ⟨k + 1, by omega, by go_num, hbF, _, _, _, tL6⟩
              case measure => simp [intOf]; omega
    · have ek : k = ml := by omega
      have tL' := tL.le bV3.size
      rw [show k = m.ln from ek.trans HL.out.2.symm] at tL'
      obtain ⟨L', eL, -⟩ := tL'.new ((tE.below hbr)) (tN.below hbr) (tO.below hbr)
      have eL2 : _ = Value.slice L'.a L'.n L'.c := eL
      subst eL2
      have qm := qa.kept hbr
      have qr := qb.kept hbr
      have z9 := qm.cell 9 rfl
      have o9 := qm.open_ 9
      obtain ⟨V9, eV9⟩ : ∃ V, WR.setCell ⟨w.heap.size, 9, none⟩ (.slice L'.a L'.n L'.c) = V := ⟨_, rfl⟩
      have on9 : Only w.heap.size WR V9 := eV9 ▸ Only.set _ _ _ _
      have q9 : Blk 29 V9 w.heap.size #[.int .i64 d, .int .i64 h, .int .i64 l, .int .i64 v, .int .i64 u, .int .i64 x, .int .i64 t, .int .i64 n, .slice E'.a E'.n E'.c, .slice L'.a L'.n L'.c, .slice N'.a N'.n N'.c, .slice O'.a O'.n O'.c] := eV9 ▸ set_blk qm 9 _ rfl
      have qr9 : Blk 29 V9 (w.heap.size + 1) #[.int .i64 0, .int .i64 0, .int .i64 0, .int .i64 0, .int .i64 0, .int .i64 0, .int .i64 0, .int .i64 0, (.slice none 0 0), (.slice none 0 0), (.slice none 0 0), (.slice none 0 0)] := eV9 ▸ qr.other _ (by simp)
      have FIN : Hid (∀ W6, Only (w.heap.size + 1) V9 W6 → NewM w.heap.size W6 E' L' N' O' Y' U' D' m ∧ Below w.heap.size w W6) := fun W6 only => by
        have K : ∀ t, t ≠ 29 → Keeps t WR W6 := fun t ht => (Keeps.of_only on9 qm ht).trans (Keeps.of_only only qr9 ht)
        have tL6 : TL w.heap.size W6 (.slice L'.a L'.n L'.c) m.ln Y' U' D' m := ⟨(K 59 (by decide)).own tL'.own, fun i hi => (tL'.lay i hi).step (K 46 (by decide)) (K 26 (by decide))⟩
        obtain ⟨L2, eL2, hN⟩ := tL6.new ((tE.below hbr).step (K 46 (by decide))) ((tN.below hbr).step (K 46 (by decide))) ((tO.below hbr).step (K 46 (by decide)))
        obtain rfl : L' = L2 := SL.v_inj eL2
        have b9 := Only.below hbw (Nat.le_refl _) hbw.size on9
        exact ⟨hN, Only.below b9 (by omega) b9.size only⟩
      obtain ⟨c0, c1, c2, c3, c4, c5, c6, c7, c8, c9, c10, c11⟩ := q9.c12
      obtain ⟨r0, r1, r2, r3, r4, r5, r6, r7, r8, r9, r10, r11⟩ := qr9.c12
      obtain ⟨f0, f1, f2, f3, f4, f5, f6, f7, f8, f9, f10, f11⟩ := qr9.o12
      have hge : ¬ ((k : Int) < (ml : Int)) := by omega
      have hge' : decide ((k : Int) < (ml : Int)) = false := by simp; omega
      clear tL tL' eL qm qr qa qb bV3 tE tN tO hbr hbw on9 q9 ek
      go_wp2
      obtain ⟨W6, eW6, q6, only, hz⟩ := set12 qr9 (.int .i64 d) (.int .i64 h) (.int .i64 l) (.int .i64 v) (.int .i64 u) (.int .i64 x) (.int .i64 t) (.int .i64 n) (.slice E'.a E'.n E'.c) (.slice L'.a L'.n L'.c) (.slice N'.a N'.n N'.c) (.slice O'.a O'.n O'.c)
      rw [eW6]
      obtain ⟨g1, g2⟩ := FIN.out W6 only
      refine bodyPost_ret (v := .agg #[.int .i64 d, .int .i64 h, .int .i64 l, .int .i64 v, .int .i64 u, .int .i64 x, .int .i64 t, .int .i64 n, .slice E'.a E'.n E'.c, .slice L'.a L'.n L'.c, .slice N'.a N'.n N'.c, .slice O'.a O'.n O'.c]) ?_ rfl ⟨E', L', N', O', rfl, ⟨Y', U', D', g1⟩, g2⟩
      obtain ⟨y0, y1, y2, y3, y4, y5, y6, y7, y8, y9, y10, y11⟩ := q6.c12
      simp [results, Try.results13, go_sem, y0, y1, y2, y3, y4, y5, y6, y7, y8, y9, y10, y11]

/-- Own of any model that fits: the same, in memory of its own -/
theorem own_call (d h l v u x t n : Int) (E L N O : SL) (Y U D : Nat → Nat → SL) (m : ModV) (w : World) (hM : ModAt w E L N O Y U D m) (hF : Fits m) :
    Calls Try.prog 13 #[.agg #[.int .i64 d, .int .i64 h, .int .i64 l, .int .i64 v, .int .i64 u, .int .i64 x, .int .i64 t, .int .i64 n, .slice E.a E.n E.c, .slice L.a L.n L.c, .slice N.a N.n N.c, .slice O.a O.n O.c]] w fun e w' => ∃ E' L' N' O' : SL, ∃ Y' U' D', e = .returned (.agg #[.int .i64 d, .int .i64 h, .int .i64 l, .int .i64 v, .int .i64 u, .int .i64 x, .int .i64 t, .int .i64 n, .slice E'.a E'.n E'.c, .slice L'.a L'.n L'.c, .slice N'.a N'.n N'.c, .slice O'.a O'.n O'.c]) ∧ NewM w.heap.size w' E' L' N' O' Y' U' D' m ∧ Below w.heap.size w w' := by
  have := own_walk d h l v u x t n E N O L.a m.ln L.c L Y U D m w hM hF rfl rfl
  rw [hM.len]
  exact this

end Go.Proofs.Ytjbeloljbjfibaa

/- Models: what they hold, and how they lie in memory. -/
import Derived.Test.YtjbeloljbjfibaaRows
import Derived.Test.YtjbeloljbjfibaaLayer8
import Derived.Test.YtjbeloljbjfibaaConf
import Derived.Test.YtjbeloljbjfibaaBlank
import Derived.Test.YtjbeloljbjfibaaSteps
import Derived.Test.YtjbeloljbjfibaaClo54
import Derived.Test.YtjbeloljbjfibaaFill
import Derived.WalkKit
import Derived.ProofKit
import Derived.OpenShut
import Derived.Below
import Derived.WalkLawsBesides
import Derived.Deep.QuietTactic
import Derived.BigQuiet
import Derived.Deep.RegionWith
import Derived.Deep.RegionHeld3
import Derived.Deep.OwnRows
namespace Go.Proofs.Ytjbeloljbjfibaa
open Go.ChangeShapes Go.WideShapes Go.ChangeAt Go.RowKit
set_option linter.unusedVariables false

theorem Blk.c12 {t0 : TypeId} {w : World} {b : Nat} {x0 x1 x2 x3 x4 x5 x6 x7 x8 x9 x10 x11 : Value} (k : Blk t0 w b #[x0, x1, x2, x3, x4, x5, x6, x7, x8, x9, x10, x11]) : w.cell? ⟨b, 0, none⟩ = some x0 ∧ w.cell? ⟨b, 1, none⟩ = some x1 ∧ w.cell? ⟨b, 2, none⟩ = some x2 ∧ w.cell? ⟨b, 3, none⟩ = some x3 ∧ w.cell? ⟨b, 4, none⟩ = some x4 ∧ w.cell? ⟨b, 5, none⟩ = some x5 ∧ w.cell? ⟨b, 6, none⟩ = some x6 ∧ w.cell? ⟨b, 7, none⟩ = some x7 ∧ w.cell? ⟨b, 8, none⟩ = some x8 ∧ w.cell? ⟨b, 9, none⟩ = some x9 ∧ w.cell? ⟨b, 10, none⟩ = some x10 ∧ w.cell? ⟨b, 11, none⟩ = some x11 :=
  ⟨k.cell 0 rfl, k.cell 1 rfl, k.cell 2 rfl, k.cell 3 rfl, k.cell 4 rfl, k.cell 5 rfl, k.cell 6 rfl, k.cell 7 rfl, k.cell 8 rfl, k.cell 9 rfl, k.cell 10 rfl, k.cell 11 rfl⟩
theorem Blk.o12 {t0 : TypeId} {w : World} {b : Nat} {cs : Array Value} (k : Blk t0 w b cs) : w.frozen? ⟨b, 0, none⟩ = false ∧ w.frozen? ⟨b, 1, none⟩ = false ∧ w.frozen? ⟨b, 2, none⟩ = false ∧ w.frozen? ⟨b, 3, none⟩ = false ∧ w.frozen? ⟨b, 4, none⟩ = false ∧ w.frozen? ⟨b, 5, none⟩ = false ∧ w.frozen? ⟨b, 6, none⟩ = false ∧ w.frozen? ⟨b, 7, none⟩ = false ∧ w.frozen? ⟨b, 8, none⟩ = false ∧ w.frozen? ⟨b, 9, none⟩ = false ∧ w.frozen? ⟨b, 10, none⟩ = false ∧ w.frozen? ⟨b, 11, none⟩ = false :=
  ⟨k.open_ 0, k.open_ 1, k.open_ 2, k.open_ 3, k.open_ 4, k.open_ 5, k.open_ 6, k.open_ 7, k.open_ 8, k.open_ 9, k.open_ 10, k.open_ 11⟩

/-- a slice as a value -/
structure SL where
  a : Option Addr
  n : Nat
  c : Nat

def SL.nought : SL := ⟨none, 0, 0⟩

def SL.v (s : SL) : Value := .slice s.a s.n s.c

/-- a list of weights -/
structure IsS (w : World) (s : SL) (zs : List Int) : Prop where
  reads : Reads .i8 w s.a s.n zs
  nil : s.a = none → s.c = 0
  cap : s.n ≤ s.c

theorem IsS.below {w w' : World} {s : SL} {zs : List Int} (h : IsS w s zs) (hb : Below w.heap.size w w') : IsS w' s zs := ⟨h.reads.below hb, h.nil, h.cap⟩
theorem IsS.drewN {w : World} {s : SL} {zs : List Int} (h : IsS w s zs) (m : Nat) : IsS (w.drewN m) s zs := ⟨h.reads.drewN m, h.nil, h.cap⟩
theorem IsS.none_ (w : World) : IsS w ⟨none, 0, 0⟩ [] := ⟨Reads.nil _ _, fun _ => rfl, Nat.le_refl _⟩

/-- a list of lists of weights -/
structure IsG (w : World) (s : SL) (k : Nat) (R : Nat → SL) (Z : Nat → List Int) : Prop where
  len : s.n = k
  some_ : 0 < k → ∃ x, s.a = some x
  nil : s.a = none → s.c = 0
  cap : s.n ≤ s.c
  cell : ∀ x, s.a = some x → ∀ j, j < k → w.cell? (x.add j) = some (R j).v
  row : ∀ j, j < k → IsS w (R j) (Z j)

theorem IsG.below {w w' : World} {s : SL} {k : Nat} {R : Nat → SL} {Z : Nat → List Int} (h : IsG w s k R Z) (hb : Below w.heap.size w w') : IsG w' s k R Z :=
  ⟨h.len, h.some_, h.nil, h.cap, fun x hx j hj => (hb.cell (World.block_lt_of_cell? w _ (h.cell x hx j hj))).trans (h.cell x hx j hj), fun j hj => (h.row j hj).below hb⟩
theorem IsG.drewN {w : World} {s : SL} {k : Nat} {R : Nat → SL} {Z : Nat → List Int} (h : IsG w s k R Z) (m : Nat) : IsG (w.drewN m) s k R Z :=
  ⟨h.len, h.some_, h.nil, h.cap, h.cell, fun j hj => (h.row j hj).drewN m⟩
theorem IsG.congr {w : World} {s : SL} {k : Nat} {R : Nat → SL} {Z Z' : Nat → List Int} (h : IsG w s k R Z) (e : ∀ j, j < k → Z j = Z' j) : IsG w s k R Z' :=
  ⟨h.len, h.some_, h.nil, h.cap, h.cell, fun j hj => e j hj ▸ h.row j hj⟩

/-- what a model holds -/
structure ModV where
  e : List Int
  nm : List Int
  o : List Int
  ln : Nat
  f : Nat → Nat → List Int
  un : Nat → Nat
  dn : Nat → Nat
  u : Nat → Nat → List Int
  d : Nat → Nat → List Int

/-- a layer's nine slices -/
structure IsY (w : World) (Y : Nat → SL) (U D : Nat → SL) (f : Nat → List Int) (un dn : Nat) (u d : Nat → List Int) : Prop where
  f : ∀ j, j < 7 → IsS w (Y j) (f j)
  u : IsG w (Y 7) un U u
  d : IsG w (Y 8) dn D d

theorem IsY.below {w w' : World} {Y U D : Nat → SL} {f : Nat → List Int} {un dn : Nat} {u d : Nat → List Int} (h : IsY w Y U D f un dn u d) (hb : Below w.heap.size w w') : IsY w' Y U D f un dn u d :=
  ⟨fun j hj => (h.f j hj).below hb, h.u.below hb, h.d.below hb⟩
theorem IsY.drewN {w : World} {Y U D : Nat → SL} {f : Nat → List Int} {un dn : Nat} {u d : Nat → List Int} (h : IsY w Y U D f un dn u d) (m : Nat) : IsY (w.drewN m) Y U D f un dn u d :=
  ⟨fun j hj => (h.f j hj).drewN m, h.u.drewN m, h.d.drewN m⟩

/-- a model as it lies in memory: the slices of its struct, and what they lead to -/
structure ModAt (w : World) (E L N O : SL) (Y U D : Nat → Nat → SL) (m : ModV) : Prop where
  e : IsS w E m.e
  nm : IsS w N m.nm
  o : IsS w O m.o
  len : L.n = m.ln
  some_ : 0 < m.ln → ∃ x, L.a = some x
  nil : L.a = none → L.c = 0
  cap : L.n ≤ L.c
  cell : ∀ x, L.a = some x → ∀ i, i < m.ln → ∀ j, j < 9 → w.cell? ((x.add (i * 9)).add j) = some (Y i j).v
  lay : ∀ i, i < m.ln → IsY w (Y i) (U i) (D i) (m.f i) (m.un i) (m.dn i) (m.u i) (m.d i)

theorem ModAt.below {w w' : World} {E L N O : SL} {Y U D : Nat → Nat → SL} {m : ModV} (h : ModAt w E L N O Y U D m) (hb : Below w.heap.size w w') : ModAt w' E L N O Y U D m :=
  ⟨h.e.below hb, h.nm.below hb, h.o.below hb, h.len, h.some_, h.nil, h.cap, fun x hx i hi j hj => (hb.cell (World.block_lt_of_cell? w _ (h.cell x hx i hi j hj))).trans (h.cell x hx i hi j hj), fun i hi => (h.lay i hi).below hb⟩
theorem ModAt.drewN {w : World} {E L N O : SL} {Y U D : Nat → Nat → SL} {m : ModV} (h : ModAt w E L N O Y U D m) (k : Nat) : ModAt (w.drewN k) E L N O Y U D m :=
  ⟨h.e.drewN k, h.nm.drewN k, h.o.drewN k, h.len, h.some_, h.nil, h.cap, h.cell, fun i hi => (h.lay i hi).drewN k⟩

/-- a model that lies in memory from block base on -/
def NewM (base : Nat) (w : World) (E L N O : SL) (Y U D : Nat → Nat → SL) (m : ModV) : Prop :=
  ∀ w', (∀ p v, w.cell? p = some v → base ≤ p.block → w'.cell? p = some v) → ModAt w' E L N O Y U D m

theorem NewM.at_ {base : Nat} {w : World} {E L N O : SL} {Y U D : Nat → Nat → SL} {m : ModV} (h : NewM base w E L N O Y U D m) : ModAt w E L N O Y U D m := h w fun _ _ hp _ => hp
theorem NewM.below {base : Nat} {w w' : World} {E L N O : SL} {Y U D : Nat → Nat → SL} {m : ModV} (h : NewM base w E L N O Y U D m) (hb : Below w.heap.size w w') : NewM base w' E L N O Y U D m :=
  fun w'' hc => h w'' fun p v hp hle => hc p v ((hb.cell (World.block_lt_of_cell? w _ hp)).trans hp) hle
theorem NewM.only {base q : Nat} {w w' : World} {E L N O : SL} {Y U D : Nat → Nat → SL} {m : ModV} (h : NewM base w E L N O Y U D m) (o : Only q w w') (hq : q < base) : NewM base w' E L N O Y U D m :=
  fun w'' hc => h w'' fun p v hp hle => hc p v (o.cell hp (fun e => by have : p.block = q := by simpa using e
                                                                       omega)) hle
theorem NewM.le {base base' : Nat} {w : World} {E L N O : SL} {Y U D : Nat → Nat → SL} {m : ModV} (h : NewM base w E L N O Y U D m) (hb : base' ≤ base) : NewM base' w E L N O Y U D m :=
  fun w'' hc => h w'' fun p v hp hle => hc p v hp (Nat.le_trans hb hle)

/-- the model with nothing in it -/
def noV : ModV := ⟨[], [], [], 0, fun _ _ => [], fun _ => 0, fun _ => 0, fun _ _ => [], fun _ _ => []⟩
abbrev noS : SL := ⟨none, 0, 0⟩
theorem NewM.none_ (base : Nat) (w : World) (Y U D : Nat → Nat → SL) : NewM base w ⟨none, 0, 0⟩ ⟨none, 0, 0⟩ ⟨none, 0, 0⟩ ⟨none, 0, 0⟩ Y U D noV := fun w' _ =>
  ⟨IsS.none_ w', IsS.none_ w', IsS.none_ w', rfl, (fun h => by cases h), fun _ => rfl, Nat.le_refl _, (fun x hx => by cases hx), (fun i hi => by cases hi)⟩
theorem ModAt.none_ (w : World) (Y U D : Nat → Nat → SL) : ModAt w noS noS noS noS Y U D noV :=
  ⟨IsS.none_ w, IsS.none_ w, IsS.none_ w, rfl, (fun h => by cases h), fun _ => rfl, Nat.le_refl _, (fun x hx => by cases hx), (fun i hi => by cases hi)⟩

/-- how many lists a layer has -/
def pl (ne : Nat) : Nat := 7 + 2 * ne

/-- a model whose lists stand one behind the other, in the weights' order -/
def ofSeq (ln ne : Nat) (S : Nat → List Int) : ModV :=
  ⟨S 0, S (1 + ln * pl ne), S (1 + ln * pl ne + 1), ln, fun i j => S (1 + i * pl ne + j), fun _ => ne, fun _ => ne, fun i k => S (1 + i * pl ne + 7 + 2 * k), fun i k => S (1 + i * pl ne + 7 + 2 * k + 1)⟩

/-- how many weights the k-th list has -/
def preC (D DD XD r : Nat) : Nat := if r = 0 ∨ r = 5 then D else if r = 6 then XD else DD
def planC (ln ne D DD XD UD VD k : Nat) : Nat :=
  if k = 0 then VD else if (k - 1) / pl ne < ln then (if (k - 1) % pl ne < 7 then preC D DD XD ((k - 1) % pl ne) else UD) else if (k - 1) % pl ne = 0 then D else VD

/-- where the k-th list lies, in a model that blank has made -/
def planA (mb b ln ne k : Nat) : Addr :=
  if k = 0 then ⟨mb, 8, none⟩ else if (k - 1) / pl ne < ln then
    (if (k - 1) % pl ne < 7 then ⟨b + 2, (k - 1) / pl ne * 9 + (k - 1) % pl ne, none⟩ else if ((k - 1) % pl ne - 7) % 2 = 0 then ⟨b + 4 + 4 * ((k - 1) / pl ne), ((k - 1) % pl ne - 7) / 2, none⟩ else ⟨b + 6 + 4 * ((k - 1) / pl ne), ((k - 1) % pl ne - 7) / 2, none⟩)
  else if (k - 1) % pl ne = 0 then ⟨mb, 10, none⟩ else ⟨mb, 11, none⟩

theorem pl_div (ne i r : Nat) (h : r < pl ne) : (1 + i * pl ne + r - 1) / pl ne = i ∧ (1 + i * pl ne + r - 1) % pl ne = r := by
  rw [show 1 + i * pl ne + r - 1 = r + pl ne * i by rw [Nat.mul_comm]; omega]
  have p : 0 < pl ne := by omega
  exact ⟨by rw [Nat.add_mul_div_left _ _ p, Nat.div_eq_of_lt h]; omega, by rw [Nat.add_mul_mod_self_left, Nat.mod_eq_of_lt h]⟩

/-- every list's number is of one of four kinds -/
theorem plan_cases (ln ne k : Nat) (h : k < 1 + ln * pl ne + 2) :
    k = 0 ∨ (∃ i r, i < ln ∧ r < 7 ∧ k = 1 + i * pl ne + r) ∨ (∃ i j, i < ln ∧ j < ne ∧ (k = 1 + i * pl ne + 7 + 2 * j ∨ k = 1 + i * pl ne + 7 + 2 * j + 1)) ∨ k = 1 + ln * pl ne ∨ k = 1 + ln * pl ne + 1 := by
  by_cases k0 : k = 0
  · exact .inl k0
  have p : 0 < pl ne := by unfold pl; omega
  have e := Nat.div_add_mod (k - 1) (pl ne)
  have m := Nat.mod_lt (k - 1) p
  rw [Nat.mul_comm] at e
  obtain ⟨i, ei⟩ : ∃ i, (k - 1) / pl ne = i := ⟨_, rfl⟩
  obtain ⟨r, er⟩ : ∃ r, (k - 1) % pl ne = r := ⟨_, rfl⟩
  rw [ei, er] at e
  rw [er] at m
  by_cases hi : i < ln
  · by_cases hr : r < 7
    · exact .inr (.inl ⟨i, r, hi, hr, by omega⟩)
    · refine .inr (.inr (.inl ⟨i, (r - 7) / 2, hi, ?_, ?_⟩))
      · unfold pl at m; omega
      · omega
  · have : ln * pl ne ≤ i * pl ne := Nat.mul_le_mul_right _ (by omega)
    omega

theorem planA_zero (mb b ln ne : Nat) : planA mb b ln ne 0 = ⟨mb, 8, none⟩ := rfl
theorem planA_list (mb b ln ne i r : Nat) (hi : i < ln) (hr : r < 7) : planA mb b ln ne (1 + i * pl ne + r) = ⟨b + 2, i * 9 + r, none⟩ := by
  obtain ⟨e1, e2⟩ := pl_div ne i r (by unfold pl; omega)
  unfold planA
  rw [e1, e2, if_neg (by omega), if_pos hi, if_pos hr]
theorem planA_up (mb b ln ne i j : Nat) (hi : i < ln) (hj : j < ne) : planA mb b ln ne (1 + i * pl ne + 7 + 2 * j) = ⟨b + 4 + 4 * i, j, none⟩ := by
  obtain ⟨e1, e2⟩ := pl_div ne i (7 + 2 * j) (by unfold pl; omega)
  rw [← Nat.add_assoc] at e1 e2
  unfold planA
  rw [e1, e2, if_neg (by omega), if_pos hi, if_neg (by omega), if_pos (by omega), show (7 + 2 * j - 7) / 2 = j by omega]
theorem planA_down (mb b ln ne i j : Nat) (hi : i < ln) (hj : j < ne) : planA mb b ln ne (1 + i * pl ne + 7 + 2 * j + 1) = ⟨b + 6 + 4 * i, j, none⟩ := by
  obtain ⟨e1, e2⟩ := pl_div ne i (7 + 2 * j + 1) (by unfold pl; omega)
  rw [← Nat.add_assoc, ← Nat.add_assoc] at e1 e2
  unfold planA
  rw [e1, e2, if_neg (by omega), if_pos hi, if_neg (by omega), if_neg (by omega), show (7 + 2 * j + 1 - 7) / 2 = j by omega]
theorem planA_norm (mb b ln ne : Nat) : planA mb b ln ne (1 + ln * pl ne) = ⟨mb, 10, none⟩ := by
  obtain ⟨e1, e2⟩ := pl_div ne ln 0 (by unfold pl; omega)
  rw [Nat.add_zero] at e1 e2
  unfold planA
  rw [e1, e2, if_neg (by omega), if_neg (by omega), if_pos rfl]
theorem planA_out (mb b ln ne : Nat) : planA mb b ln ne (1 + ln * pl ne + 1) = ⟨mb, 11, none⟩ := by
  obtain ⟨e1, e2⟩ := pl_div ne ln 1 (by unfold pl; omega)
  unfold planA
  rw [e1, e2, if_neg (by omega), if_neg (by omega), if_neg (by omega)]

variable {ln ne D DD XD UD VD : Nat}
theorem planC_list (i r : Nat) (hi : i < ln) (hr : r < 7) : planC ln ne D DD XD UD VD (1 + i * pl ne + r) = preC D DD XD r := by
  obtain ⟨e1, e2⟩ := pl_div ne i r (by unfold pl; omega)
  unfold planC
  rw [e1, e2, if_neg (by omega), if_pos hi, if_pos hr]
theorem planC_up (i j : Nat) (hi : i < ln) (hj : j < ne) : planC ln ne D DD XD UD VD (1 + i * pl ne + 7 + 2 * j) = UD := by
  obtain ⟨e1, e2⟩ := pl_div ne i (7 + 2 * j) (by unfold pl; omega)
  rw [← Nat.add_assoc] at e1 e2
  unfold planC
  rw [e1, e2, if_neg (by omega), if_pos hi, if_neg (by omega)]
theorem planC_down (i j : Nat) (hi : i < ln) (hj : j < ne) : planC ln ne D DD XD UD VD (1 + i * pl ne + 7 + 2 * j + 1) = UD := by
  obtain ⟨e1, e2⟩ := pl_div ne i (7 + 2 * j + 1) (by unfold pl; omega)
  rw [← Nat.add_assoc, ← Nat.add_assoc] at e1 e2
  unfold planC
  rw [e1, e2, if_neg (by omega), if_pos hi, if_neg (by omega)]
theorem planC_norm : planC ln ne D DD XD UD VD (1 + ln * pl ne) = D := by
  obtain ⟨e1, e2⟩ := pl_div ne ln 0 (by unfold pl; omega)
  rw [Nat.add_zero] at e1 e2
  unfold planC
  rw [e1, e2, if_neg (by omega), if_neg (by omega), if_pos rfl]
theorem planC_out : planC ln ne D DD XD UD VD (1 + ln * pl ne + 1) = VD := by
  obtain ⟨e1, e2⟩ := pl_div ne ln 1 (by unfold pl; omega)
  unfold planC
  rw [e1, e2, if_neg (by omega), if_neg (by omega), if_neg (by omega)]

/-- the number of the list that lies at a -/
def numA (mb b ln ne : Nat) (a : Addr) : Nat :=
  if a.block = mb then (if a.off = 8 then 0 else if a.off = 10 then 1 + ln * pl ne else 1 + ln * pl ne + 1)
  else if a.block = b + 2 then 1 + a.off / 9 * pl ne + a.off % 9 else if (a.block - b) % 4 = 0 then 1 + (a.block - b - 4) / 4 * pl ne + 7 + 2 * a.off else 1 + (a.block - b - 6) / 4 * pl ne + 7 + 2 * a.off + 1

theorem num_plan (mb b ln ne k : Nat) (hm : b + 3 + 4 * ln ≤ mb) (h : k < 1 + ln * pl ne + 2) : numA mb b ln ne (planA mb b ln ne k) = k := by
  rcases plan_cases ln ne k h with rfl | ⟨i, r, hi, hr, rfl⟩ | ⟨i, j, hi, hj, rfl | rfl⟩ | rfl | rfl
  · rw [planA_zero]
    simp [numA]
  · rw [planA_list mb b ln ne i r hi hr]
    unfold numA
    rw [if_neg (by show ¬ b + 2 = mb; omega), if_pos rfl, show (i * 9 + r) / 9 = i by omega, show (i * 9 + r) % 9 = r by omega]
  · rw [planA_up mb b ln ne i j hi hj]
    unfold numA
    rw [if_neg (by show ¬ b + 4 + 4 * i = mb; omega), if_neg (by show ¬ b + 4 + 4 * i = b + 2; omega), if_pos (by show (b + 4 + 4 * i - b) % 4 = 0; omega), show (b + 4 + 4 * i - b - 4) / 4 = i by omega]
  · rw [planA_down mb b ln ne i j hi hj]
    unfold numA
    rw [if_neg (by show ¬ b + 6 + 4 * i = mb; omega), if_neg (by show ¬ b + 6 + 4 * i = b + 2; omega), if_neg (by show ¬ (b + 6 + 4 * i - b) % 4 = 0; omega), show (b + 6 + 4 * i - b - 6) / 4 = i by omega]
  · rw [planA_norm]
    simp [numA]
  · rw [planA_out]
    simp [numA]

theorem planA_inj (mb b ln ne : Nat) (hm : b + 3 + 4 * ln ≤ mb) : ∀ i, i < 1 + ln * pl ne + 2 → ∀ j, j < 1 + ln * pl ne + 2 → i ≠ j → planA mb b ln ne i ≠ planA mb b ln ne j := fun i hi j hj hne e => hne (by
  rw [← num_plan mb b ln ne i hm hi, ← num_plan mb b ln ne j hm hj, e])

/-- a list lies in the model's own block, or in those that blank has laid -/
theorem planA_block (mb b ln ne k : Nat) (h : k < 1 + ln * pl ne + 2) : (planA mb b ln ne k).block = mb ∧ ((planA mb b ln ne k).off = 8 ∨ (planA mb b ln ne k).off = 10 ∨ (planA mb b ln ne k).off = 11) ∨ (planA mb b ln ne k).block = b + 2 ∧ (planA mb b ln ne k).off % 9 < 7 ∨
    ∃ i, i < ln ∧ ((planA mb b ln ne k).block = b + 4 + 4 * i ∨ (planA mb b ln ne k).block = b + 6 + 4 * i) := by
  rcases plan_cases ln ne k h with rfl | ⟨i, r, hi, hr, rfl⟩ | ⟨i, j, hi, hj, rfl | rfl⟩ | rfl | rfl
  · rw [planA_zero]; exact .inl ⟨rfl, .inl rfl⟩
  · rw [planA_list mb b ln ne i r hi hr]; exact .inr (.inl ⟨rfl, by show (i * 9 + r) % 9 < 7; omega⟩)
  · rw [planA_up mb b ln ne i j hi hj]; exact .inr (.inr ⟨i, hi, .inl rfl⟩)
  · rw [planA_down mb b ln ne i j hi hj]; exact .inr (.inr ⟨i, hi, .inr rfl⟩)
  · rw [planA_norm]; exact .inl ⟨rfl, .inr (.inl rfl)⟩
  · rw [planA_out]; exact .inl ⟨rfl, .inr (.inr rfl)⟩

end Go.Proofs.Ytjbeloljbjfibaa

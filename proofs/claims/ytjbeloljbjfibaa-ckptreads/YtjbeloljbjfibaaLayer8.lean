/- Texts put together: View, Own, Works, Texts, Sums, Seals, Opens, Wts, Reader, Change, Twos, Bytes, RdWts, RefWts, Back. -/
import Derived.Test.YtjbeloljbjfibaaRows
import Derived.WalkKit
import Derived.ProofKit
import Derived.OpenShut
import Derived.Below
import Derived.Deep.QuietTactic
import Derived.BigQuiet
import Derived.WalkLawsBesides
import Derived.Lib.QuietBelow
namespace Go.Proofs.Ytjbeloljbjfibaa

/- What a slice of whole numbers reads as in a world; what cuts, new memory and draws leave of it. -/
section
open Go.ChangeShapes Go.WideShapes Go.ChangeAt Go.RowKit
set_option linter.unusedVariables false

/-- the first n cells from a on are the numbers zs, of kind k -/
structure Reads (k : IntKind) (w : World) (a : Option Addr) (n : Nat) (zs : List Int) : Prop where
  len : zs.length = n
  max : n ≤ 9223372036854775807
  wf : ∀ i, (Lit.int k (zs.getD i 0)).wf = true
  some_ : 0 < n → ∃ x, a = some x
  cell : ∀ x, a = some x → ∀ i, i < n → w.cell? (x.add i) = some (.int k (zs.getD i 0))

theorem wf_nought (k : IntKind) : (Lit.int k 0).wf = true := by cases k <;> decide

theorem Reads.nil (k : IntKind) (w : World) : Reads k w none 0 [] :=
  ⟨rfl, by omega, fun i => by simpa using wf_nought k, fun h => by omega, fun _ h => by cases h⟩

theorem Reads.of_row {k : IntKind} {w : World} {x : Addr} {n : Nat} {zs : List Int} (h0 : zs.length = n) (h1 : n ≤ 9223372036854775807) (h2 : ∀ z ∈ zs, (Lit.int k z).wf = true)
    (h3 : ∀ i, i < n → w.cell? (x.add i) = some (.int k (zs.getD i 0))) : Reads k w (some x) n zs := by
  refine ⟨h0, h1, fun i => ?_, fun _ => ⟨x, rfl⟩, fun y hy => ?_⟩
  · by_cases hi : i < zs.length
    · have e : zs.getD i 0 = zs[i] := by simp [List.getD, hi]
      rw [e]
      exact h2 _ (List.getElem_mem hi)
    · have e : zs.getD i 0 = 0 := by simp [List.getD, hi]
      rw [e]
      exact wf_nought k
  · obtain rfl := Option.some.inj hy
    exact h3

/-- a world that keeps the cells keeps the reading -/
theorem Reads.carry {k : IntKind} {w w' : World} {a : Option Addr} {n : Nat} {zs : List Int} (h : Reads k w a n zs) (hc : ∀ p v, w.cell? p = some v → w'.cell? p = some v) : Reads k w' a n zs :=
  ⟨h.len, h.max, h.wf, h.some_, fun x hx i hi => hc _ _ (h.cell x hx i hi)⟩

theorem Reads.below {k : IntKind} {w w' : World} {a : Option Addr} {n : Nat} {zs : List Int} (h : Reads k w a n zs) (hb : Below w.heap.size w w') : Reads k w' a n zs :=
  h.carry fun p v hp => (hb.cell (World.block_lt_of_cell? w p hp)).trans hp

theorem Reads.drewN {k : IntKind} {w : World} {a : Option Addr} {n : Nat} {zs : List Int} (h : Reads k w a n zs) (m : Nat) : Reads k (w.drewN m) a n zs := h.carry fun _ _ hp => hp

theorem Reads.of_open {k : IntKind} {w : World} {x : Addr} {n c : Nat} {zs : List Int} (hl : n ≤ c) (hm : c ≤ maxLen) (hz : zs.length = c)
    (hc : ∀ i, i < zs.length → w.cell? (x.add i) = some (.int k (zs.getD i 0))) (hw : ∀ z ∈ zs, (Lit.int k z).wf = true) : Reads k w (some x) n (zs.take n) := by
  refine Reads.of_row (by rw [List.length_take]; omega) (by unfold maxLen at hm; omega) (fun z h => hw z (List.mem_of_mem_take h)) fun i hi => ?_
  rw [hc i (by omega)]
  have e : (zs.take n).getD i 0 = zs.getD i 0 := by simp [List.getD, hi]
  rw [e]

theorem open_length {H : Type} {k : IntKind} {n c : Nat} {zs : List Int} (hz : zs.length = c) (hl : n ≤ c) : n ≤ (lits (H := H) k (zs.take n)).length + (lits (H := H) k (zs.drop n)).length := by
  simp only [lits, List.length_map, List.length_take, List.length_drop]
  omega

/-- a slice among the arguments is not longer than what the second form's bound lets in -/
theorem bulk_pos {H : Type} (d : DataW H) : 1 ≤ Rows.uptoBulk d := by
  cases d with
  | lit l => cases l <;> simp [Rows.uptoBulk]
  | nil => simp [Rows.uptoBulk]
  | ptr d => simp [Rows.uptoBulk]
  | slice elems spare => simp [Rows.uptoBulk]
  | agg parts => simp [Rows.uptoBulk]
  | iface t d => simp [Rows.uptoBulk]
  | map entries => simp [Rows.uptoBulk]
  | held h => simp [Rows.uptoBulk]

theorem bulk_count {H : Type} (l : List (DataW H)) : l.length ≤ Rows.uptoBulkAll l := by
  induction l with
  | nil => simp [Rows.uptoBulkAll]
  | cons x r ih => have := bulk_pos x; simp only [Rows.uptoBulkAll, List.length_cons]; omega

theorem bulk_member {H : Type} (l : List (DataW H)) (j : Nat) (d : DataW H) (h : l[j]? = some d) : Rows.uptoBulk d ≤ Rows.uptoBulkAll l := by
  induction l generalizing j with
  | nil => simp at h
  | cons x r ih =>
    simp only [Rows.uptoBulkAll]
    cases j with
    | zero => simp at h; subst h; omega
    | succ j => have := ih j (by simpa using h); omega

theorem upto_slice {H : Type} {l : List (DataW H)} (hk : Rows.uptoSmall H l = true) {j : Nat} {el sp : List (DataW H)} (h : l[j]? = some (.slice el sp)) {n : Nat} (hn : n ≤ el.length + sp.length) : n ≤ 1048576 := by
  have b : Rows.uptoBulkAll l ≤ 1048576 := of_decide_eq_true hk
  have m := bulk_member l j _ h
  have c1 := bulk_count el
  have c2 := bulk_count sp
  simp only [Rows.uptoBulk] at m
  omega

theorem below_drew {B : Nat} {a w w' : World} (hb : Below B a w) (h : ∃ m, w' = w.drewN m) : Below B a w' := by
  obtain ⟨m, rfl⟩ := h
  exact ⟨hb.os, hb.tape, hb.output, hb.size, hb.block⟩

theorem below_new {w W : World} (h : Below w.heap.size w W) (o : Obj) : Below w.heap.size w (W.alloc o) := h.alloc h.size o
theorem below_then {w W W' : World} (h : Below w.heap.size w W) (k : Below W.heap.size W W') : Below w.heap.size w W' := h.trans (k.mono h.size)

theorem Reads.wf_mem {k : IntKind} {w : World} {a : Option Addr} {n : Nat} {zs : List Int} (h : Reads k w a n zs) : ∀ z ∈ zs, (Lit.int k z).wf = true := by
  intro z hz
  obtain ⟨i, hi, e⟩ := List.getElem_of_mem hz
  have := h.wf i
  rwa [show zs.getD i 0 = z by simp [List.getD, hi, e]] at this

/-- a part of a row -/
theorem Reads.cut {k : IntKind} {w : World} {x : Addr} {n : Nat} {zs : List Int} (h : Reads k w (some x) n zs) (l m : Nat) (hm : l + m ≤ n) : Reads k w (some (x.add l)) m ((zs.drop l).take m) := by
  have hl := h.len
  have e : ∀ i, i < m → ((zs.drop l).take m).getD i 0 = zs.getD (l + i) 0 := fun i hi => by simp [List.getD, hi]
  refine Reads.of_row (by rw [List.length_take, List.length_drop]; omega) (by have := h.max; omega) (fun z hz => h.wf_mem z (List.mem_of_mem_drop (List.mem_of_mem_take hz))) fun i hi => ?_
  rw [Addr.add_add, e i hi]
  exact h.cell x rfl (l + i) (by omega)
end

/- Rows that a call itself makes and fills: how they read behind it. -/
section
open Go.ChangeShapes Go.WideShapes Go.ChangeAt Go.RowKit
set_option linter.unusedVariables false

theorem info3 : (Try.prog.info? 3).map (fun i => (i.zero, i.size, i.bytes)) = some (some (.int .i64 0), 1, 8) := by kernel_rfl
theorem info5 : (Try.prog.info? 5).map (fun i => (i.zero, i.size, i.bytes)) = some (some (.int .u8 0), 1, 1) := by kernel_rfl
theorem info46 : (Try.prog.info? 46).map (fun i => (i.zero, i.size, i.bytes)) = some (some (.int .i8 0), 1, 1) := by kernel_rfl

/-- a row that is owned reads as the numbers that it holds -/
theorem own_reads {k : IntKind} {w : World} {B : Nat} {e : TypeId} {v : Value} {n : Nat} {cs : List Value} (h : w.ownsRow B e 1 v n cs) {zs : List Int} (hl : zs.length = n)
    (hw : ∀ z ∈ zs, (Lit.int k z).wf = true) (hc : ∀ j, j < n → cs[j]? = some (.int k (zs.getD j 0))) : ∃ a c, v = .slice a n c ∧ Reads k w a n zs := by
  rcases h.2 with ⟨rfl, rfl⟩ | ⟨g, cap, cur, rfl, _, hg, hn, hm, hs, ht⟩
  · obtain rfl := List.eq_nil_of_length_eq_zero hl
    exact ⟨none, 0, rfl, Reads.nil _ _⟩
  · refine ⟨_, _, rfl, Reads.of_row hl (by unfold maxLen at hm; omega) hw fun i hi => ?_⟩
    exact h.cells (g := g) rfl i _ (hc i hi)

theorem own_reads_at {k : IntKind} {w : World} {B : Nat} {e : TypeId} {a : Option Addr} {n c : Nat} {cs : List Value} (h : w.ownsRow B e 1 (.slice a n c) n cs) {zs : List Int} (hl : zs.length = n)
    (hw : ∀ z ∈ zs, (Lit.int k z).wf = true) (hc : ∀ j, j < n → cs[j]? = some (.int k (zs.getD j 0))) : Reads k w a n zs := by
  obtain ⟨a', c', ev, hr⟩ := own_reads h hl hw hc
  simp only [Value.slice.injEq] at ev
  rw [ev.1]
  exact hr

/-- one more of the first k is as it shall be, where the k-th is set -/
theorem set_step {cs : List Value} {n k : Nat} {u : Value} {F : Nat → Value} (hl : cs.length = n) (hk : k < n) (hu : u = F k) (h : ∀ j, j < k → cs[j]? = some (F j)) :
    ∀ j, j < k + 1 → (cs.set k u)[j]? = some (F j) := by
  intro j hj
  by_cases e : j = k
  · subst e
    subst hu
    simp [hl, hk]
  · rw [List.getElem?_set_ne (by omega)]
    exact h j (by omega)

theorem map_getD (f : Int → Int) (xs : List Int) (j : Nat) (h : j < xs.length) : (xs.map f).getD j 0 = f (xs.getD j 0) := by
  simp [List.getD, h]

theorem own_length {w : World} {B : Nat} {e : TypeId} {v : Value} {n : Nat} {cs : List Value} (h : w.ownsRow B e 1 v n cs) : cs.length = n := by
  simpa using h.1

/-- the one new cell that an append of one number reads -/
theorem one_new (w : World) (V : Value) (t : TypeId) : ∀ j u, [V][j]? = some u → (w.alloc (.cells #[V] t)).cell? ((⟨w.heap.size, 0, none⟩ : Addr).add j) = some u := by
  intro j u hj
  match j, hj with
  | 0, hj => simp at hj; subst hj; simp [Addr.add]

theorem one_newD (w : World) (V : Value) (t : TypeId) : ∀ j u, [V][j]? = some u → (w.alloc (.cells #[V] t)).drew.cell? ((⟨w.heap.size, 0, none⟩ : Addr).add j) = some u := one_new w V t
theorem size_newD (w : World) (o : Obj) (B : Nat) (h : B ≤ w.heap.size) : B ≤ (w.alloc o).drew.heap.size := by
  show B ≤ (w.heap.push o).size
  simp
  omega
theorem grown_drew {w w' : World} {r : Option Nat} (h : w.drew.grownBy w' r) : w.grownBy w' r := ⟨h.os, h.tape, h.output, h.size, h.block⟩

theorem one_oneCell (k : IntKind) (z : Int) : ∀ u ∈ [Value.int k z], u.oneCell' = true := by
  intro u hu
  simp at hu
  subst hu
  rfl

/-- the first k of a row that is gathered -/
def gath (F : Nat → Int) (kd : IntKind) (k : Nat) : List Value := (List.range k).map fun j => .int kd (F j)

theorem gath_succ (F : Nat → Int) (kd : IntKind) (k : Nat) : gath F kd (k + 1) = gath F kd k ++ [.int kd (F k)] := by
  simp [gath, List.range_succ]

theorem gath_at (F : Nat → Int) (kd : IntKind) (n j : Nat) (h : j < n) : (gath F kd n)[j]? = some (.int kd (F j)) := by
  simp [gath, h]

/-- behind an append of one number to a row of the call's own -/
theorem append_step {w wr w1 : World} {B k : Nat} {e : TypeId} {kd : IntKind} {F : Nat → Int} {v v' : Value} {Z : Int} {o : Obj} (hB : B ≤ wr.heap.size) (hz : Z = F k) (hb : Below B w wr)
    (hown : wr.ownsRow B e 1 v k (gath F kd k)) (hown' : w1.ownsRow B e 1 v' (k + 1) (gath F kd k ++ [.int kd Z])) (hg : (wr.alloc o).grownBy w1 v.ownBlock) :
    Below B w w1 ∧ w1.ownsRow B e 1 v' (k + 1) (gath F kd (k + 1)) := by
  subst hz
  rw [gath_succ]
  exact ⟨(hb.alloc hB o).grown hg (by have := (Below.refl B wr).alloc hB o; have := this.size; omega) (fun g h => (hown.lt g h).1), hown'⟩
end

/- The examples that the statements ask for first: they come out as they should. -/
section
open Go.ChangeShapes Go.WideShapes Go.ChangeAt Go.RowKit
set_option linter.unusedVariables false

theorem lit_reads (k : IntKind) (w : World) (zs : List Int) (e : TypeId) (hz : zs.length ≤ 9223372036854775807) (hw : ∀ z ∈ zs, (Lit.int k z).wf = true) :
    Reads k (w.alloc (.cells (zs.map (Value.int k)).toArray e)) (some ⟨w.heap.size, 0, none⟩) zs.length zs :=
  own_reads_at (World.ownsRow_lit (base := w.heap.size) (size := 1) w (zs.map (Value.int k)).toArray zs.length (Nat.le_refl _) (by unfold maxLen; exact hz) (by simp)) rfl hw (fun j hj => by simp [hj])

theorem lit1 (k : IntKind) (w : World) (e : TypeId) (g : Nat) (hg : g = w.heap.size) (a : Int) (ha : (Lit.int k a).wf = true) : Reads k (w.alloc (.cells #[.int k a] e)) (some ⟨g, 0, none⟩) 1 [a] := by
  subst hg
  exact lit_reads k w [a] e (by simp) (by simp [ha])
theorem lit2 (k : IntKind) (w : World) (e : TypeId) (g : Nat) (hg : g = w.heap.size) (a b : Int) (ha : (Lit.int k a).wf = true) (hb : (Lit.int k b).wf = true) :
    Reads k (w.alloc (.cells #[.int k a, .int k b] e)) (some ⟨g, 0, none⟩) 2 [a, b] := by
  subst hg
  exact lit_reads k w [a, b] e (by simp) (by simp [ha, hb])
theorem lit4 (k : IntKind) (w : World) (e : TypeId) (g : Nat) (hg : g = w.heap.size) (a b c d : Int) (ha : (Lit.int k a).wf = true) (hb : (Lit.int k b).wf = true) (hc : (Lit.int k c).wf = true) (hd : (Lit.int k d).wf = true) :
    Reads k (w.alloc (.cells #[.int k a, .int k b, .int k c, .int k d] e)) (some ⟨g, 0, none⟩) 4 [a, b, c, d] := by
  subst hg
  exact lit_reads k w [a, b, c, d] e (by simp) (by simp [ha, hb, hc, hd])
end

/- Texts as bytes: a number in two bytes, the check sum, what a call of each gives back, the program's and the document's. -/
section
open Go.ChangeShapes Go.WideShapes Go.ChangeAt Go.RowKit
set_option linter.unusedVariables false

/-- the byte at a place, 0 behind the end -/
def byteZ (s : ByteArray) (k : Nat) : Nat := if h : k < s.size then (s[k]'h).toNat else 0
/-- the bytes of whole numbers -/
def bytesOf (zs : List Int) : ByteArray := ⟨(zs.map fun z => UInt8.ofNat z.toNat).toArray⟩
/-- a number in two bytes -/
def two (n : Int) : ByteArray := bytesOf [n % 256, n / 256 % 256]
/-- the two parts of the check sum of the first k bytes -/
def aTo (s : ByteArray) : Nat → Int
  | 0 => 0
  | k + 1 => (aTo s k + byteZ s k) % 255
def bTo (s : ByteArray) : Nat → Int
  | 0 => 0
  | k + 1 => (bTo s k + aTo s (k + 1)) % 255
def sumZ (s : ByteArray) : Int := 256 * bTo s s.size + aTo s s.size

theorem byteZ_lt (s : ByteArray) (k : Nat) : byteZ s k < 256 := by
  unfold byteZ
  split
  · exact UInt8.toNat_lt _
  · omega
theorem byteZ_at (s : ByteArray) (k : Nat) (h : k < s.size) : (s[k]'h).toNat = byteZ s k := by
  unfold byteZ
  rw [dif_pos h]
theorem aTo_bounds (s : ByteArray) (k : Nat) : 0 ≤ aTo s k ∧ aTo s k < 255 := by
  cases k with
  | zero => simp [aTo]
  | succ k => simp only [aTo]; omega
theorem bTo_bounds (s : ByteArray) (k : Nat) : 0 ≤ bTo s k ∧ bTo s k < 255 := by
  cases k with
  | zero => simp [bTo]
  | succ k => simp only [bTo]; omega
theorem sumZ_bounds (s : ByteArray) : 0 ≤ sumZ s ∧ sumZ s < 65536 := by
  have := aTo_bounds s s.size
  have := bTo_bounds s s.size
  unfold sumZ
  omega
theorem bytesOf_size (zs : List Int) : (bytesOf zs).size = zs.length := by
  show (zs.map fun z => UInt8.ofNat z.toNat).toArray.size = _
  simp
theorem two_size (n : Int) : (two n).size = 2 := bytesOf_size _

/-- a row of bytes as a text -/
theorem conv_row {w : World} {a : Option Addr} {n : Nat} (c : Nat) {zs : List Int} (h : Reads .u8 w a n zs) : (convert 49 9 (.slice a n c)).run Try.prog w = .ok (.string (bytesOf zs)) w := by
  rw [run_convert_bytes_string w 49 9 5 a n c Try.underlying49 Try.underlying5 Try.underlying9]
  cases a with
  | none =>
    have e : n = 0 := by
      rcases Nat.eq_zero_or_pos n with e | e
      · exact e
      · obtain ⟨x, hx⟩ := h.some_ e; cases hx
    subst e
    obtain rfl := List.eq_nil_of_length_eq_zero h.len
    simp [Conv.bytesToString, Sem.run_pure, bytesOf]
    rfl
  | some x =>
    have hn := h.len
    subst hn
    have hl := run_loadCells_list (P := Try.prog) w x (zs.map (Value.int .u8)) (fun j v hj => by
      have hj' : j < zs.length := by have := (List.getElem?_eq_some_iff.1 hj).1; simpa using this
      rw [h.cell x rfl j hj']
      simp [List.getElem?_eq_getElem hj'] at hj
      rw [← hj]
      simp [List.getD, hj'])
    simp only [List.length_map] at hl
    rw [run_bytesToString w x zs.length c _ hl]
    congr 2
    have : ∀ (l : List Int) (r : ByteArray), l.foldl (fun r n => r.push (UInt8.ofNat n.toNat)) r = ⟨r.data ++ (l.map fun z => UInt8.ofNat z.toNat).toArray⟩ := by
      intro l
      induction l with
      | nil => intro r; simp
      | cons z l ih => intro r; rw [List.foldl_cons, ih]; simp [ByteArray.push]
    rw [this]
    have he0 : ByteArray.empty.data = #[] := rfl
    rw [he0]
    simp [bytesOf]
end

/- What Two and Sum give back, the program's and the document's: contracts of the calls. -/
section
open Go.ChangeShapes Go.WideShapes Go.ChangeAt Go.RowKit
set_option linter.unusedVariables false

theorem wf_u8 {x : Int} (h0 : 0 ≤ x) (h1 : x < 256) : (Lit.int .u8 x).wf = true := by
  have : 0 ≤ x ∧ x ≤ 255 := ⟨h0, by omega⟩
  simpa [Lit.wf, IntKind.min, IntKind.max, IntKind.signed, IntKind.bits] using this

theorem conv_two (w : World) (x y : Int) (hx : 0 ≤ x ∧ x < 256) (hy : 0 ≤ y ∧ y < 256) (c : Nat) :
    (convert 49 9 (.slice (some ⟨w.heap.size, 0, none⟩) 2 c)).run Try.prog (w.alloc (.cells #[.int .u8 x, .int .u8 y] 5)) = .ok (.string (bytesOf [x, y])) (w.alloc (.cells #[.int .u8 x, .int .u8 y] 5)) :=
  conv_row c (lit2 .u8 w 5 _ rfl x y (wf_u8 hx.1 hx.2) (wf_u8 hy.1 hy.2))

theorem two_call (n : Int) (w : World) (hn : (Lit.int .i64 n).wf = true) :
    Calls Try.prog 36 #[.int .i64 n] w fun e w' => e = .returned (.string (two n)) ∧ ∃ o, w' = w.alloc o := by
  have cv := conv_two w (n % 256) (n / 256 % 256) ⟨by omega, by omega⟩ ⟨by omega, by omega⟩
  go_enter Try.func36, Try.ntmps36
  go_wp2
  go_ret
  exact ⟨rfl, _, rfl⟩

theorem sum_call (s : ByteArray) (w : World) (hs : s.size ≤ 9223372036854775807) :
    Calls Try.prog 58 #[.string s] w fun e w' => e = .returned (.int .i64 (sumZ s)) ∧ w' = w := by
  go_enter Try.func58, Try.ntmps58
  go_wp2
  go_loopw [3, 4, 8] (fun a b i wr => ∃ k : Nat, k ≤ s.size ∧ a = .int .i64 (aTo s k) ∧ b = .int .i64 (bTo s k) ∧ i = .int .i64 k ∧ wr = w) (fun _ _ i _ => s.size - (intOf i).toNat)
  case atStart => exact ⟨0, Nat.zero_le _, rfl, rfl, rfl, rfl⟩
  case round =>
    obtain ⟨k, hk, rfl, rfl, rfl, rfl⟩ := hrel
    by_cases hlt : k < s.size
    · obtain ⟨A0, A1⟩ := aTo_bounds s k
      obtain ⟨B0, B1⟩ := bTo_bounds s k
      have hB := byteZ_lt s k
      have eB := byteZ_at s k hlt
      have ea : aTo s (k + 1) = (aTo s k + byteZ s k) % 255 := rfl
      have eb : bTo s (k + 1) = (bTo s k + aTo s (k + 1)) % 255 := rfl
      obtain ⟨A0', A1'⟩ := aTo_bounds s (k + 1)
      obtain ⟨X, eX⟩ : ∃ X, byteZ s k = X := ⟨_, rfl⟩
      obtain ⟨A, eA⟩ : ∃ A, aTo s k = A := ⟨_, rfl⟩
      obtain ⟨B, eB'⟩ : ∃ B, bTo s k = B := ⟨_, rfl⟩
      rw [eX] at eB hB ea
      rw [eA] at A0 A1 ea ⊢
      rw [eB'] at B0 B1 eb ⊢
      obtain ⟨A', eA'⟩ : ∃ A', (A + (X : Int)) % 255 = A' := ⟨_, rfl⟩
      rw [eA'] at ea
      rw [ea] at eb A0' A1'
      have Ha : Hid (aTo s (k + 1) = A') := ea
      have Hb : Hid (bTo s (k + 1) = (B + A') % 255) := eb
      clear ea eb eX eA eB'
      go_wp2
      go_roundw
      case rel => exact ⟨k + 1, by omega, by rw [Ha.out, eA'], by rw [Hb.out], by go_num, trivial⟩
      case measure => simp [intOf]; omega
    · have e : k = s.size := by omega
      subst e
      obtain ⟨A0, A1⟩ := aTo_bounds s s.size
      obtain ⟨B0, B1⟩ := bTo_bounds s s.size
      have es : Hid (sumZ s = 256 * bTo s s.size + aTo s s.size) := rfl
      obtain ⟨A, eA⟩ : ∃ A, aTo s s.size = A := ⟨_, rfl⟩
      obtain ⟨B, eB⟩ : ∃ B, bTo s s.size = B := ⟨_, rfl⟩
      rw [eA, eB] at es
      rw [eA] at A0 A1 ⊢
      rw [eB] at B0 B1 ⊢
      clear eA eB
      go_wp2
      go_ret
      exact ⟨by rw [es.out]; rfl, rfl⟩

theorem refTwo_call (n : Int) (w : World) (hn : (Lit.int .i64 n).wf = true) :
    Calls Try.prog 40 #[.int .i64 n] w fun e w' => e = .returned (.string (two n)) ∧ ∃ o, w' = w.alloc o := by
  have hb : -9223372036854775808 ≤ n ∧ n ≤ 9223372036854775807 := by
    simpa [Lit.wf, IntKind.min, IntKind.max, IntKind.signed, IntKind.bits] using hn
  obtain ⟨T, eT⟩ : ∃ T, n.tmod 65536 = T := ⟨_, rfl⟩
  have t0 : -65536 < T ∧ T < 65536 := by
    subst eT
    have := Int.lt_tmod_of_pos n (b := 65536) (by decide)
    have := Int.tmod_lt_of_pos n (b := 65536) (by decide)
    omega
  obtain ⟨M, eM⟩ : ∃ M, (T + 65536).tmod 65536 = M := ⟨_, rfl⟩
  have hM : M = n % 65536 := by
    rw [← eM, Int.tmod_eq_emod_of_nonneg (by omega)]
    have := Int.mul_tdiv_add_tmod n 65536
    rw [eT] at this
    omega
  have m0 : 0 ≤ M := by omega
  have m1 : M < 65536 := by omega
  have e1 : M % 256 = n % 256 := by omega
  have e2 : M / 256 = n / 256 % 256 := by omega
  have f : two n = bytesOf [M % 256, M / 256] := by unfold two; rw [e1, e2]
  have cv := conv_two w (M % 256) (M / 256) ⟨by omega, by omega⟩ ⟨by omega, by omega⟩
  have F : Hid (two n = bytesOf [M % 256, M / 256]) := f
  clear e1 e2 f hM
  obtain ⟨t1, t2⟩ := t0
  go_enter Try.func40, Try.ntmps40
  go_wp2
  go_ret
  exact ⟨by rw [F.out]; rfl, _, rfl⟩

theorem refSum_call (s : ByteArray) (w : World) (hs : s.size ≤ 9223372036854775807) :
    Calls Try.prog 59 #[.string s] w fun e w' => e = .returned (.int .i64 (sumZ s)) ∧ w' = w := by
  go_enter Try.func59, Try.ntmps59
  go_wp2
  go_loopw [3, 4, 5] (fun a b i wr => ∃ k : Nat, k ≤ s.size ∧ a = .int .i64 (aTo s k) ∧ b = .int .i64 (bTo s k) ∧ i = .int .i64 k ∧ wr = w) (fun _ _ i _ => s.size - (intOf i).toNat)
  case atStart => exact ⟨0, Nat.zero_le _, rfl, rfl, rfl, rfl⟩
  case round =>
    obtain ⟨k, hk, rfl, rfl, rfl, rfl⟩ := hrel
    by_cases hlt : k < s.size
    · obtain ⟨A0, A1⟩ := aTo_bounds s k
      obtain ⟨B0, B1⟩ := bTo_bounds s k
      have hB := byteZ_lt s k
      have eB := byteZ_at s k hlt
      have ea : aTo s (k + 1) = (aTo s k + byteZ s k) % 255 := rfl
      have eb : bTo s (k + 1) = (bTo s k + aTo s (k + 1)) % 255 := rfl
      obtain ⟨A0', A1'⟩ := aTo_bounds s (k + 1)
      obtain ⟨X, eX⟩ : ∃ X, byteZ s k = X := ⟨_, rfl⟩
      obtain ⟨A, eA⟩ : ∃ A, aTo s k = A := ⟨_, rfl⟩
      obtain ⟨B, eB'⟩ : ∃ B, bTo s k = B := ⟨_, rfl⟩
      rw [eX] at eB hB ea
      rw [eA] at A0 A1 ea ⊢
      rw [eB'] at B0 B1 eb ⊢
      obtain ⟨A', eA'⟩ : ∃ A', (A + (X : Int)) % 255 = A' := ⟨_, rfl⟩
      rw [eA'] at ea
      rw [ea] at eb A0' A1'
      have Ha : Hid (aTo s (k + 1) = A') := ea
      have Hb : Hid (bTo s (k + 1) = (B + A') % 255) := eb
      clear ea eb eX eA eB'
      go_wp2
      go_roundw
      case rel => exact ⟨k + 1, by omega, by rw [Ha.out, eA'], by rw [Hb.out], by go_num, trivial⟩
      case measure => simp [intOf]; omega
    · have e : k = s.size := by omega
      subst e
      obtain ⟨A0, A1⟩ := aTo_bounds s s.size
      obtain ⟨B0, B1⟩ := bTo_bounds s s.size
      have es : Hid (sumZ s = 256 * bTo s s.size + aTo s s.size) := rfl
      obtain ⟨A, eA⟩ : ∃ A, aTo s s.size = A := ⟨_, rfl⟩
      obtain ⟨B, eB⟩ : ∃ B, bTo s s.size = B := ⟨_, rfl⟩
      rw [eA, eB] at es
      rw [eA] at A0 A1 ⊢
      rw [eB] at B0 B1 ⊢
      clear eA eB
      go_wp2
      go_ret
      exact ⟨by rw [es.out]; rfl, rfl⟩
end

/- What Seal and Open give back, the program's and the document's: contracts of the calls. -/
section
open Go.ChangeShapes Go.WideShapes Go.ChangeAt Go.RowKit
set_option linter.unusedVariables false

theorem wf_i64 {x : Int} (h0 : -9223372036854775808 ≤ x) (h1 : x ≤ 9223372036854775807) : (Lit.int .i64 x).wf = true := by
  simpa [Lit.wf, IntKind.min, IntKind.max, IntKind.signed, IntKind.bits] using And.intro h0 h1
theorem wf_sumZ (s : ByteArray) : (Lit.int .i64 (sumZ s)).wf = true := by
  have := sumZ_bounds s
  exact wf_i64 (by omega) (by omega)
theorem below_one {w w' : World} (h : ∃ o, w' = w.alloc o) : Below w.heap.size w w' := by
  obtain ⟨o, rfl⟩ := h
  exact below_new (Below.refl _ _) o

def sealS (s : ByteArray) : ByteArray := s ++ two (sumZ s)

theorem seal_call (s : ByteArray) (w : World) (hs : s.size ≤ 9223372036854775805) :
    Calls Try.prog 37 #[.string s] w fun e w' => e = .returned (.string (sealS s)) ∧ ∃ o, w' = w.alloc o := by
  have c14 := fun w => sum_call s w (by omega)
  have c10 := fun w => two_call (sumZ s) w (wf_sumZ s)
  have F : Hid (sealS s = s ++ two (sumZ s)) := rfl
  have h2 := two_size (sumZ s)
  obtain ⟨S, eS⟩ : ∃ S, sumZ s = S := ⟨_, rfl⟩
  rw [eS] at c14 c10 F h2
  obtain ⟨T, eT⟩ : ∃ T, two S = T := ⟨_, rfl⟩
  rw [eT] at c10 F h2
  clear eS eT
  go_enter Try.func37, Try.ntmps37
  go_wp2_with (first
    | (go_at_call 58; refine (c14 _).mono ?_; rintro e w' ⟨rfl, hw⟩; obtain rfl := hw.symm)
    | (go_at_call 36; refine (c10 _).mono ?_; rintro e w' ⟨rfl, hw⟩))
  go_ret
  exact ⟨by rw [F.out]; rfl, hw⟩

theorem refSeal_call (s : ByteArray) (w : World) (hs : s.size ≤ 9223372036854775805) :
    Calls Try.prog 41 #[.string s] w fun e w' => e = .returned (.string (sealS s)) ∧ ∃ o, w' = w.alloc o := by
  have c14 := fun w => refSum_call s w (by omega)
  have c10 := fun w => refTwo_call (sumZ s) w (wf_sumZ s)
  have F : Hid (sealS s = s ++ two (sumZ s)) := rfl
  have h2 := two_size (sumZ s)
  obtain ⟨S, eS⟩ : ∃ S, sumZ s = S := ⟨_, rfl⟩
  rw [eS] at c14 c10 F h2
  obtain ⟨T, eT⟩ : ∃ T, two S = T := ⟨_, rfl⟩
  rw [eT] at c10 F h2
  clear eS eT
  go_enter Try.func41, Try.ntmps41
  go_wp2_with (first
    | (go_at_call 59; refine (c14 _).mono ?_; rintro e w' ⟨rfl, hw⟩; obtain rfl := hw.symm)
    | (go_at_call 40; refine (c10 _).mono ?_; rintro e w' ⟨rfl, hw⟩))
  go_ret
  exact ⟨by rw [F.out]; rfl, hw⟩
end

/- What Open gives back, the program's and the document's: contracts of the calls. -/
section
open Go.ChangeShapes Go.WideShapes Go.ChangeAt Go.RowKit
open Go.Sort (grow)
set_option linter.unusedVariables false

theorem text_same {a b : ByteArray} (h : a = b) : (a.toList == b.toList) = true := by subst h; simp
theorem text_other {a b : ByteArray} (h : a ≠ b) : (a.toList == b.toList) = false := by
  rw [beq_eq_false_iff_ne]
  intro e
  rw [ByteArray.toList_eq, ByteArray.toList_eq] at e
  exact h (ByteArray.ext (Array.toList_inj.1 e))

/-- all but the last two bytes, and these -/
def front (s : ByteArray) : ByteArray := s.extract 0 (s.size - 2)
def back (s : ByteArray) : ByteArray := s.extract (s.size - 2) s.size
def openE (s : ByteArray) : Int := if s.size < 2 then 22 else if two (sumZ (front s)) = back s then 0 else 24
def openT (s : ByteArray) : ByteArray := if openE s = 0 then front s else ⟨#[]⟩

theorem front_back (s : ByteArray) : front s ++ back s = s := by
  unfold front back
  apply ByteArray.ext
  simp
theorem front_size (s : ByteArray) : (front s).size ≤ s.size := by
  unfold front
  rw [ByteArray.size_extract]
  omega
theorem append_inj_right {a b c : ByteArray} (h : a ++ b = a ++ c) : b = c := by
  have := congrArg ByteArray.data h
  rw [ByteArray.data_append, ByteArray.data_append] at this
  exact ByteArray.ext (Array.append_right_inj _ |>.1 this)

theorem open_short (s : ByteArray) (w : World) (h : s.size < 2) :
    Calls Try.prog 47 #[.string s] w fun e w' => e = .returned (.tuple #[.string ⟨#[]⟩, .int .i64 22]) ∧ w' = w := by
  obtain ⟨n, e⟩ : ∃ n, s.size = n := ⟨_, rfl⟩
  rw [e] at h
  have h' : (n : Int) - 2 < 0 := by omega
  go_enter Try.func47, Try.ntmps47
  go_wp2_with fail
  go_ret2
  exact ⟨rfl, rfl⟩

theorem refOpen_short (s : ByteArray) (w : World) (h : s.size < 2) :
    Calls Try.prog 50 #[.string s] w fun e w' => e = .returned (.tuple #[.string ⟨#[]⟩, .int .i64 22]) ∧ w' = w := by
  obtain ⟨n, e⟩ : ∃ n, s.size = n := ⟨_, rfl⟩
  rw [e] at h
  go_enter Try.func50, Try.ntmps50
  go_wp2_with fail
  go_ret2
  exact ⟨rfl, rfl⟩

theorem open_wrong (s : ByteArray) (w : World) (hs : s.size ≤ 9223372036854775805) (h : ¬ s.size < 2) (hd : two (sumZ (front s)) ≠ back s) :
    Calls Try.prog 47 #[.string s] w fun e w' => e = .returned (.tuple #[.string ⟨#[]⟩, .int .i64 24]) ∧ Below w.heap.size w w' := by
  have hf := front_size s
  have c14 : ∀ d os, Calls Try.prog 58 #[.string (front s)] (grow (redrawn w d) os) fun e w'' => e = .returned (.int .i64 (sumZ (front s))) ∧ ∃ p : Regrown, w'' = grow (redrawn w p.d) p.os := fun d os =>
    Calls.regrown_of ((sum_call (front s) _ (by omega)).mono fun e w' ⟨he, hq⟩ => ⟨he, hq ▸ Below.refl _ _⟩)
  have c10 : ∀ d os, Calls Try.prog 36 #[.int .i64 (sumZ (front s))] (grow (redrawn w d) os) fun e w'' => e = .returned (.string (two (sumZ (front s)))) ∧ ∃ p : Regrown, w'' = grow (redrawn w p.d) p.os := fun d os =>
    Calls.regrown_of ((two_call _ _ (wf_sumZ _)).mono fun e w' ⟨he, hq⟩ => ⟨he, below_one hq⟩)
  have eq := text_other hd
  obtain ⟨n, e⟩ : ∃ n, s.size = n + 2 := ⟨s.size - 2, by omega⟩
  have ef : s.extract 0 n = front s := by unfold front; rw [e]; rfl
  have eb : s.extract n (n + 2) = back s := by unfold back; rw [e]; rfl
  obtain ⟨A, eA⟩ : ∃ A, front s = A := ⟨_, rfl⟩
  obtain ⟨B, eB⟩ : ∃ B, back s = B := ⟨_, rfl⟩
  obtain ⟨S, eS⟩ : ∃ S, sumZ A = S := ⟨_, rfl⟩
  obtain ⟨T, eT⟩ : ∃ T, two S = T := ⟨_, rfl⟩
  rw [eA, eS] at c14 c10
  rw [eA, eS, eB] at eq
  rw [eT] at eq c10
  rw [eA] at ef
  rw [eB] at eb
  rw [e] at hs
  have h0 : (n : Int) ≤ (n : Int) + 2 := by omega
  clear hf h hd eA eB eS eT
  go_enter Try.func47, Try.ntmps47
  go_wp2
  refine wp_region_quiet_below (by kernel_rfl) (by kernel_rfl) ?_
  repeat (go_big_quiet_step (first | (go_at_call 58; exact c14 _ _) | (go_at_call 36; exact c10 _ _)))
  refine wpQuiet_nil ?_
  intro _ hw'
  obtain ⟨⟨dq, osq⟩, hw''⟩ := hw'
  subst hw''
  go_wp2
  go_ret2
  exact ⟨rfl, below_regrown w dq osq⟩

theorem open_right (s : ByteArray) (w : World) (hs : s.size ≤ 9223372036854775805) (h : ¬ s.size < 2) (hd : two (sumZ (front s)) = back s) :
    Calls Try.prog 47 #[.string s] w fun e w' => e = .returned (.tuple #[.string (front s), .int .i64 0]) ∧ Below w.heap.size w w' := by
  have hf := front_size s
  have c14 : ∀ d os, Calls Try.prog 58 #[.string (front s)] (grow (redrawn w d) os) fun e w'' => e = .returned (.int .i64 (sumZ (front s))) ∧ ∃ p : Regrown, w'' = grow (redrawn w p.d) p.os := fun d os =>
    Calls.regrown_of ((sum_call (front s) _ (by omega)).mono fun e w' ⟨he, hq⟩ => ⟨he, hq ▸ Below.refl _ _⟩)
  have c10 : ∀ d os, Calls Try.prog 36 #[.int .i64 (sumZ (front s))] (grow (redrawn w d) os) fun e w'' => e = .returned (.string (two (sumZ (front s)))) ∧ ∃ p : Regrown, w'' = grow (redrawn w p.d) p.os := fun d os =>
    Calls.regrown_of ((two_call _ _ (wf_sumZ _)).mono fun e w' ⟨he, hq⟩ => ⟨he, below_one hq⟩)
  have eq := text_same hd
  obtain ⟨n, e⟩ : ∃ n, s.size = n + 2 := ⟨s.size - 2, by omega⟩
  have ef : s.extract 0 n = front s := by unfold front; rw [e]; rfl
  have eb : s.extract n (n + 2) = back s := by unfold back; rw [e]; rfl
  obtain ⟨A, eA⟩ : ∃ A, front s = A := ⟨_, rfl⟩
  obtain ⟨B, eB⟩ : ∃ B, back s = B := ⟨_, rfl⟩
  obtain ⟨S, eS⟩ : ∃ S, sumZ A = S := ⟨_, rfl⟩
  obtain ⟨T, eT⟩ : ∃ T, two S = T := ⟨_, rfl⟩
  rw [eA, eS] at c14 c10
  rw [eA, eS, eB] at eq
  rw [eT] at eq c10
  rw [eA] at ef ⊢
  rw [eB] at eb
  rw [e] at hs
  have h0 : (n : Int) ≤ (n : Int) + 2 := by omega
  clear hf h hd eA eB eS eT
  go_enter Try.func47, Try.ntmps47
  go_wp2
  refine wp_region_quiet_below (by kernel_rfl) (by kernel_rfl) ?_
  repeat (go_big_quiet_step (first | (go_at_call 58; exact c14 _ _) | (go_at_call 36; exact c10 _ _)))
  refine wpQuiet_nil ?_
  intro _ hw'
  obtain ⟨⟨dq, osq⟩, hw''⟩ := hw'
  subst hw''
  go_wp2
  go_ret2
  exact ⟨rfl, below_regrown w dq osq⟩

theorem refOpen_wrong (s : ByteArray) (w : World) (hs : s.size ≤ 9223372036854775805) (h : ¬ s.size < 2) (hd : two (sumZ (front s)) ≠ back s) :
    Calls Try.prog 50 #[.string s] w fun e w' => e = .returned (.tuple #[.string ⟨#[]⟩, .int .i64 24]) ∧ Below w.heap.size w w' := by
  have hf := front_size s
  have c17 := fun w => refSeal_call (front s) w (by omega)
  have eq := text_other (a := sealS (front s)) (b := s) (fun h => hd (append_inj_right (a := front s) (h.trans (front_back s).symm)))
  obtain ⟨n, e⟩ : ∃ n, s.size = n + 2 := ⟨s.size - 2, by omega⟩
  have ef : s.extract 0 n = front s := by unfold front; rw [e]; rfl
  obtain ⟨A, eA⟩ : ∃ A, front s = A := ⟨_, rfl⟩
  obtain ⟨T, eT⟩ : ∃ T, sealS A = T := ⟨_, rfl⟩
  rw [eA] at c17 eq ef
  rw [eT] at eq c17
  rw [e] at hs
  clear hf h hd eA eT
  go_enter Try.func50, Try.ntmps50
  go_wp2_with (go_at_call 41; refine (c17 _).mono ?_; rintro e w' ⟨rfl, hw⟩)
  go_ret2
  exact ⟨rfl, below_one hw⟩

theorem refOpen_right (s : ByteArray) (w : World) (hs : s.size ≤ 9223372036854775805) (h : ¬ s.size < 2) (hd : two (sumZ (front s)) = back s) :
    Calls Try.prog 50 #[.string s] w fun e w' => e = .returned (.tuple #[.string (front s), .int .i64 0]) ∧ Below w.heap.size w w' := by
  have hf := front_size s
  have c17 := fun w => refSeal_call (front s) w (by omega)
  have eq := text_same (a := sealS (front s)) (b := s) (by unfold sealS; rw [hd]; exact front_back s)
  obtain ⟨n, e⟩ : ∃ n, s.size = n + 2 := ⟨s.size - 2, by omega⟩
  have ef : s.extract 0 n = front s := by unfold front; rw [e]; rfl
  obtain ⟨A, eA⟩ : ∃ A, front s = A := ⟨_, rfl⟩
  obtain ⟨T, eT⟩ : ∃ T, sealS A = T := ⟨_, rfl⟩
  rw [eA] at c17 eq ef ⊢
  rw [eT] at eq c17
  rw [e] at hs
  clear hf h hd eA eT
  go_enter Try.func50, Try.ntmps50
  go_wp2_with (go_at_call 41; refine (c17 _).mono ?_; rintro e w' ⟨rfl, hw⟩)
  go_ret2
  exact ⟨rfl, below_one hw⟩

theorem open_call (s : ByteArray) (w : World) (hs : s.size ≤ 9223372036854775805) :
    Calls Try.prog 47 #[.string s] w fun e w' => e = .returned (.tuple #[.string (openT s), .int .i64 (openE s)]) ∧ Below w.heap.size w w' := by
  by_cases h : s.size < 2
  · have e : openE s = 22 := by unfold openE; rw [if_pos h]
    have t : openT s = ⟨#[]⟩ := by unfold openT; rw [e, if_neg (by decide)]
    rw [e, t]
    exact (open_short s w h).mono fun _ _ ⟨he, hw⟩ => ⟨he, hw ▸ Below.refl _ _⟩
  · by_cases hd : two (sumZ (front s)) = back s
    · have e : openE s = 0 := by unfold openE; rw [if_neg h, if_pos hd]
      have t : openT s = front s := by unfold openT; rw [e, if_pos rfl]
      rw [e, t]
      exact open_right s w hs h hd
    · have e : openE s = 24 := by unfold openE; rw [if_neg h, if_neg hd]
      have t : openT s = ⟨#[]⟩ := by unfold openT; rw [e, if_neg (by decide)]
      rw [e, t]
      exact open_wrong s w hs h hd

theorem refOpen_call (s : ByteArray) (w : World) (hs : s.size ≤ 9223372036854775805) :
    Calls Try.prog 50 #[.string s] w fun e w' => e = .returned (.tuple #[.string (openT s), .int .i64 (openE s)]) ∧ Below w.heap.size w w' := by
  by_cases h : s.size < 2
  · have e : openE s = 22 := by unfold openE; rw [if_pos h]
    have t : openT s = ⟨#[]⟩ := by unfold openT; rw [e, if_neg (by decide)]
    rw [e, t]
    exact (refOpen_short s w h).mono fun _ _ ⟨he, hw⟩ => ⟨he, hw ▸ Below.refl _ _⟩
  · by_cases hd : two (sumZ (front s)) = back s
    · have e : openE s = 0 := by unfold openE; rw [if_neg h, if_pos hd]
      have t : openT s = front s := by unfold openT; rw [e, if_pos rfl]
      rw [e, t]
      exact refOpen_right s w hs h hd
    · have e : openE s = 24 := by unfold openE; rw [if_neg h, if_neg hd]
      have t : openT s = ⟨#[]⟩ := by unfold openT; rw [e, if_neg (by decide)]
      rw [e, t]
      exact refOpen_wrong s w hs h hd
end

/- What Weights gives back, the program's and the document's: contracts of the calls. -/
section
open Go.ChangeShapes Go.WideShapes Go.ChangeAt Go.RowKit
open Go.Sort (grow)
set_option linter.unusedVariables false

/-- weights as bytes, without their count -/
def wtsB (zs : List Int) : ByteArray := bytesOf ((zs.take 65535).map (· % 256))
def wtsS (zs : List Int) : ByteArray := two (min zs.length 65535 : Nat) ++ wtsB zs

theorem wtsB_size (zs : List Int) : (wtsB zs).size = min zs.length 65535 := by
  unfold wtsB
  rw [bytesOf_size]
  simp
  omega

theorem reads_take {k : IntKind} {w : World} {a : Option Addr} {n m : Nat} {zs : List Int} (h : Reads k w a n zs) (hm : m ≤ n) : Reads k w a m (zs.take m) := by
  have e : ∀ i, i < m → (zs.take m).getD i 0 = zs.getD i 0 := fun i hi => by simp [List.getD, hi]
  refine ⟨by rw [List.length_take, h.len]; omega, by have := h.max; omega, fun i => ?_, fun h0 => h.some_ (by omega), fun x hx i hi => ?_⟩
  · by_cases hi : i < m
    · rw [e i hi]; exact h.wf i
    · rw [show (zs.take m).getD i 0 = 0 by simp [List.getD]; rw [List.getElem?_eq_none (by rw [List.length_take]; omega)]; rfl]
      exact wf_nought k
  · rw [e i hi]
    exact h.cell x hx i (by omega)

theorem weights_few (a0 : Option Addr) (n c0 : Nat) (zs ys : List Int) (T S : ByteArray) (w : World) (h1 : Reads .i8 w a0 n ys) (hl : n ≤ c0) (hn : n ≤ 65535) (hn' : (n : Int) ≤ 65535) (hmax : n ≤ 9223372036854775807)
    (E : T = bytesOf (ys.map (· % 256))) (hT : T.size = n) (h2 : S.size = 2) (c10 : ∀ w, Calls Try.prog 36 #[.int .i64 (n : Int)] w fun e w' => e = .returned (.string S) ∧ ∃ o, w' = w.alloc o) :
    Calls Try.prog 38 #[.slice a0 n c0] w fun e w' => e = .returned (.string (S ++ T)) ∧ Below w.heap.size w w' := by
  obtain ⟨i0, hi, hz0, hz1, hz2⟩ := info_parts info5
  have hx : max (65535 : Int) 0 = 65535 := by decide
  go_enter Try.func38, Try.ntmps38
  go_wp2_with (first | (at_make; refine wpList_make_full _ rfl (.tmp 12) (.tmp 12) 49 rfl w.heap.size 5 i0 (.int .u8 0) 1 Try.underlying49 hi hz0 hz1 .i64 .i64 _ _ n rfl rfl rfl rfl (by rw [hz2]; omega) (by unfold maxLen; omega) (Nat.le_refl _) ?_; intro w1 hown hgrow))
  have hbel : Below w.heap.size w w1 := (Below.refl _ _).grown hgrow (Nat.le_refl _) (fun k h => by cases h)
  go_wp2
  go_loopw [16] (fun i wr => ∃ k : Nat, k ≤ n ∧ i = .int .i64 k ∧ Below w.heap.size w wr ∧ ∃ cs, wr.ownsRow w.heap.size 5 1 (.slice (some ⟨w.heap.size, 0, none⟩) n n) n cs ∧ ∀ j, j < k → cs[j]? = some (.int .u8 (ys.getD j 0 % 256))) (fun i _ => n - (intOf i).toNat)
  case atStart => exact ⟨0, Nat.zero_le _, rfl, hbel, _, hown, fun j hj => by omega⟩
  case round =>
    obtain ⟨k, hk, rfl, hbr, cs, ho, hcs⟩ := hrel
    by_cases hlt : k < n
    · have hr := h1.below hbr
      obtain ⟨x, rfl⟩ := h1.some_ (by omega)
      have cx := hr.cell x rfl k hlt
      have wz := h1.wf k
      have hlen := own_length ho
      have cell : wr.cell? ⟨w.heap.size, k, none⟩ = cs[k]? := ho.cellAt k (by omega)
      obtain ⟨u, hu⟩ : ∃ u, cs[k]? = some u := ⟨cs[k], by simp [hlen, hlt]⟩
      rw [hu] at cell
      have froz := ho.frozenAt k
      have st := fun v => ho.stored k v
      have step := fun v (h : v = Value.int .u8 (ys.getD k 0 % 256)) => set_step (F := fun j => Value.int .u8 (ys.getD j 0 % 256)) hlen hlt h hcs
      obtain ⟨X, eX⟩ : ∃ X, ys.getD k 0 = X := ⟨_, rfl⟩
      rw [eX] at cx wz step
      have R : Hid (Below w.heap.size w (wr.setCell ⟨w.heap.size, k, none⟩ (.int .u8 (X % 256))) ∧ ∃ cs', (wr.setCell ⟨w.heap.size, k, none⟩ (.int .u8 (X % 256))).ownsRow w.heap.size 5 1 (.slice (some ⟨w.heap.size, 0, none⟩) n n) n cs' ∧ ∀ j, j < k + 1 → cs'[j]? = some (.int .u8 (ys.getD j 0 % 256))) :=
        ⟨hbr.setCell (Nat.le_refl _) _, _, (st _).1, step _ rfl⟩
      clear eX step st hcs ho hu hlen hr hbr
      go_wp2
      go_roundw
      case rel => exact ⟨k + 1, by omega, by go_num, R.out⟩
      case measure => simp [intOf]; omega
    · have e : n = k := by omega
      subst e
      have fin := own_reads_at (k := .u8) (zs := ys.map (· % 256)) ho (by rw [List.length_map, h1.len]) (fun z hz => by obtain ⟨y, _, rfl⟩ := List.mem_map.1 hz; exact wf_u8 (by omega) (by omega)) (fun j hj => by rw [hcs j hj, map_getD _ _ _ (by rw [h1.len]; exact hj)])
      have cv : ∀ d os, (convert 49 9 (.slice (some ⟨w.heap.size, 0, none⟩) n n)).run Try.prog (grow (redrawn wr d) os) = .ok (.string T) (grow (redrawn wr d) os) := fun d os => by
        rw [E]; exact conv_row n (fin.below (below_regrown wr d os))
      have c10' : ∀ d os, Calls Try.prog 36 #[.int .i64 (n : Int)] (grow (redrawn wr d) os) fun e w'' => e = .returned (.string S) ∧ ∃ p : Regrown, w'' = grow (redrawn wr p.d) p.os := fun d os =>
        Calls.regrown_of ((c10 _).mono fun e w' ⟨he, hq⟩ => ⟨he, below_one hq⟩)
      clear hcs ho fin c10 hown hgrow E h1
      go_wp2
      refine wp_region_quiet_below (by kernel_rfl) (by kernel_rfl) ?_
      repeat (go_big_quiet_step (first | (go_at_call 36; exact c10' _ _)))
      refine wpQuiet_nil ?_
      intro _ hw'
      obtain ⟨⟨dq, osq⟩, hw''⟩ := hw'
      subst hw''
      go_wp2
      go_ret
      exact ⟨rfl, below_then hbr (below_regrown wr dq osq)⟩

theorem weights_many (a0 : Option Addr) (n c0 : Nat) (m : Nat) (em : Hid (m = 65535)) (hm : m ≤ 65535) (zs ys : List Int) (T S : ByteArray) (w : World) (h1 : Reads .i8 w a0 m ys) (hl : n ≤ c0) (hn : 65535 < n) (hn' : (65535 : Int) < (n : Int)) (hmax : n ≤ 9223372036854775807)
    (E : T = bytesOf (ys.map (· % 256))) (hT : T.size = m) (h2 : S.size = 2) (c10 : ∀ w, Calls Try.prog 36 #[.int .i64 (m : Int)] w fun e w' => e = .returned (.string S) ∧ ∃ o, w' = w.alloc o) :
    Calls Try.prog 38 #[.slice a0 n c0] w fun e w' => e = .returned (.string (S ++ T)) ∧ Below w.heap.size w w' := by
  obtain ⟨i0, hi, hz0, hz1, hz2⟩ := info_parts info5
  have hx : max (65535 : Int) 0 = 65535 := by decide
  go_enter Try.func38, Try.ntmps38
  go_wp2_with (first | (at_make; refine wpList_make_full _ rfl (.tmp 12) (.tmp 12) 49 rfl w.heap.size 5 i0 (.int .u8 0) 1 Try.underlying49 hi hz0 hz1 .i64 .i64 _ _ 65535 rfl rfl rfl rfl (by rw [hz2]; decide) (by unfold maxLen; decide) (Nat.le_refl _) ?_; intro w1 hown hgrow))
  rw [← em.out] at hown
  have hbel : Below w.heap.size w w1 := (Below.refl _ _).grown hgrow (Nat.le_refl _) (fun k h => by cases h)
  go_wp2
  rw [show (65535 : Int) = (m : Int) by rw [em.out]; rfl, ← em.out]
  go_loopw [16] (fun i wr => ∃ k : Nat, k ≤ m ∧ i = .int .i64 k ∧ Below w.heap.size w wr ∧ ∃ cs, wr.ownsRow w.heap.size 5 1 (.slice (some ⟨w.heap.size, 0, none⟩) m m) m cs ∧ ∀ j, j < k → cs[j]? = some (.int .u8 (ys.getD j 0 % 256))) (fun i _ => m - (intOf i).toNat)
  case atStart => exact ⟨0, Nat.zero_le _, rfl, hbel, _, hown, fun j hj => by omega⟩
  case round =>
    obtain ⟨k, hk, rfl, hbr, cs, ho, hcs⟩ := hrel
    by_cases hlt : k < m
    · have hr := h1.below hbr
      obtain ⟨x, rfl⟩ := h1.some_ (by omega)
      have cx := hr.cell x rfl k hlt
      have wz := h1.wf k
      have hlen := own_length ho
      have cell : wr.cell? ⟨w.heap.size, k, none⟩ = cs[k]? := ho.cellAt k (by omega)
      obtain ⟨u, hu⟩ : ∃ u, cs[k]? = some u := ⟨cs[k], by simp [hlen, hlt]⟩
      rw [hu] at cell
      have froz := ho.frozenAt k
      have st := fun v => ho.stored k v
      have step := fun v (h : v = Value.int .u8 (ys.getD k 0 % 256)) => set_step (F := fun j => Value.int .u8 (ys.getD j 0 % 256)) hlen hlt h hcs
      obtain ⟨X, eX⟩ : ∃ X, ys.getD k 0 = X := ⟨_, rfl⟩
      rw [eX] at cx wz step
      have R : Hid (Below w.heap.size w (wr.setCell ⟨w.heap.size, k, none⟩ (.int .u8 (X % 256))) ∧ ∃ cs', (wr.setCell ⟨w.heap.size, k, none⟩ (.int .u8 (X % 256))).ownsRow w.heap.size 5 1 (.slice (some ⟨w.heap.size, 0, none⟩) m m) m cs' ∧ ∀ j, j < k + 1 → cs'[j]? = some (.int .u8 (ys.getD j 0 % 256))) :=
        ⟨hbr.setCell (Nat.le_refl _) _, _, (st _).1, step _ rfl⟩
      clear eX step st hcs ho hu hlen hr hbr
      go_wp2
      go_roundw
      case rel => exact ⟨k + 1, by omega, by go_num, R.out⟩
      case measure => simp [intOf]; omega
    · have e : m = k := by omega
      subst e
      have fin := own_reads_at (k := .u8) (zs := ys.map (· % 256)) ho (by rw [List.length_map, h1.len]) (fun z hz => by obtain ⟨y, _, rfl⟩ := List.mem_map.1 hz; exact wf_u8 (by omega) (by omega)) (fun j hj => by rw [hcs j hj, map_getD _ _ _ (by rw [h1.len]; exact hj)])
      have cv : ∀ d os, (convert 49 9 (.slice (some ⟨w.heap.size, 0, none⟩) m m)).run Try.prog (grow (redrawn wr d) os) = .ok (.string T) (grow (redrawn wr d) os) := fun d os => by
        rw [E]; exact conv_row m (fin.below (below_regrown wr d os))
      have c10' : ∀ d os, Calls Try.prog 36 #[.int .i64 (m : Int)] (grow (redrawn wr d) os) fun e w'' => e = .returned (.string S) ∧ ∃ p : Regrown, w'' = grow (redrawn wr p.d) p.os := fun d os =>
        Calls.regrown_of ((c10 _).mono fun e w' ⟨he, hq⟩ => ⟨he, below_one hq⟩)
      clear hcs ho fin c10 hown hgrow E h1
      go_wp2
      refine wp_region_quiet_below (by kernel_rfl) (by kernel_rfl) ?_
      repeat (go_big_quiet_step (first | (go_at_call 36; exact c10' _ _)))
      refine wpQuiet_nil ?_
      intro _ hw'
      obtain ⟨⟨dq, osq⟩, hw''⟩ := hw'
      subst hw''
      go_wp2
      go_ret
      exact ⟨rfl, below_then hbr (below_regrown wr dq osq)⟩

theorem weights_call (a0 : Option Addr) (n c0 : Nat) (zs : List Int) (w : World) (h0 : Reads .i8 w a0 n zs) (hl : n ≤ c0) :
    Calls Try.prog 38 #[.slice a0 n c0] w fun e w' => e = .returned (.string (wtsS zs)) ∧ Below w.heap.size w w' := by
  have hT := wtsB_size zs
  have F : wtsS zs = two (min zs.length 65535 : Nat) ++ wtsB zs := rfl
  rw [F]
  rw [h0.len] at hT ⊢
  by_cases h : n ≤ 65535
  · rw [show min n 65535 = n by omega] at hT ⊢
    exact weights_few a0 n c0 zs zs _ _ w h0 hl h (by omega) h0.max (by unfold wtsB; rw [List.take_of_length_le (by rw [h0.len]; exact h)]) hT (two_size _) (fun w => two_call _ w (wf_i64 (by omega) (by omega)))
  · rw [show min n 65535 = 65535 by omega] at hT ⊢
    obtain ⟨m, em⟩ : ∃ m : Nat, m = 65535 := ⟨_, rfl⟩
    rw [← em] at hT ⊢
    exact weights_many a0 n c0 m em (by omega) zs (zs.take m) _ _ w (reads_take h0 (by omega)) hl (by omega) (by omega) h0.max (by unfold wtsB; rw [em]) hT (two_size _) (fun w => two_call _ w (wf_i64 (by omega) (by omega)))

theorem refWeights_few (a0 : Option Addr) (n c0 : Nat) (zs ys : List Int) (T S : ByteArray) (w : World) (h1 : Reads .i8 w a0 n ys) (hmn : n ≤ n) (hn : n ≤ 65535) (hn' : (n : Int) ≤ 65535) (hmax : n ≤ 9223372036854775807)
    (E : T = bytesOf (ys.map (· % 256))) (hT : T.size = n) (h2 : S.size = 2) (c10 : ∀ w, Calls Try.prog 40 #[.int .i64 (n : Int)] w fun e w' => e = .returned (.string S) ∧ ∃ o, w' = w.alloc o) :
    Calls Try.prog 42 #[.slice a0 n c0] w fun e w' => e = .returned (.string (S ++ T)) ∧ Below w.heap.size w w' := by
  obtain ⟨i0, hi, hz0, hz1, hz2⟩ := info_parts info5
  have hx : max (65535 : Int) 0 = 65535 := by decide
  go_enter Try.func42, Try.ntmps42
  go_wp2_with (first | (at_make; refine wpList_make_full _ rfl (.tmp 9) (.tmp 9) 49 rfl w.heap.size 5 i0 (.int .u8 0) 1 Try.underlying49 hi hz0 hz1 .i64 .i64 _ _ n rfl rfl rfl rfl (by rw [hz2]; omega) (by unfold maxLen; omega) (Nat.le_refl _) ?_; intro w1 hown hgrow))
  have hbel : Below w.heap.size w w1 := (Below.refl _ _).grown hgrow (Nat.le_refl _) (fun k h => by cases h)
  go_wp2
  go_loopw [5] (fun i wr => ∃ k : Nat, k ≤ n ∧ i = .int .i64 k ∧ Below w.heap.size w wr ∧ ∃ cs, wr.ownsRow w.heap.size 5 1 (.slice (some ⟨w.heap.size, 0, none⟩) n n) n cs ∧ ∀ j, j < k → cs[j]? = some (.int .u8 (ys.getD j 0 % 256))) (fun i _ => n - (intOf i).toNat)
  case atStart => exact ⟨0, Nat.zero_le _, rfl, hbel, _, hown, fun j hj => by omega⟩
  case round =>
    obtain ⟨k, hk, rfl, hbr, cs, ho, hcs⟩ := hrel
    by_cases hlt : k < n
    · have hr := h1.below hbr
      obtain ⟨x, rfl⟩ := h1.some_ (by omega)
      have cx := hr.cell x rfl k hlt
      have wz := h1.wf k
      have hlen := own_length ho
      have cell : wr.cell? ⟨w.heap.size, k, none⟩ = cs[k]? := ho.cellAt k (by omega)
      obtain ⟨u, hu⟩ : ∃ u, cs[k]? = some u := ⟨cs[k], by simp [hlen, hlt]⟩
      rw [hu] at cell
      have froz := ho.frozenAt k
      have st := fun v => ho.stored k v
      have step := fun v (h : v = Value.int .u8 (ys.getD k 0 % 256)) => set_step (F := fun j => Value.int .u8 (ys.getD j 0 % 256)) hlen hlt h hcs
      obtain ⟨X, eX⟩ : ∃ X, ys.getD k 0 = X := ⟨_, rfl⟩
      rw [eX] at cx wz step
      have R : Hid (Below w.heap.size w (wr.setCell ⟨w.heap.size, k, none⟩ (.int .u8 (X % 256))) ∧ ∃ cs', (wr.setCell ⟨w.heap.size, k, none⟩ (.int .u8 (X % 256))).ownsRow w.heap.size 5 1 (.slice (some ⟨w.heap.size, 0, none⟩) n n) n cs' ∧ ∀ j, j < k + 1 → cs'[j]? = some (.int .u8 (ys.getD j 0 % 256))) :=
        ⟨hbr.setCell (Nat.le_refl _) _, _, (st _).1, step _ rfl⟩
      clear eX step st hcs ho hu hlen hr hbr
      go_wp2
      go_roundw
      case rel => exact ⟨k + 1, by omega, by go_num, R.out⟩
      case measure => simp [intOf]; omega
    · have e : n = k := by omega
      subst e
      have fin := own_reads_at (k := .u8) (zs := ys.map (· % 256)) ho (by rw [List.length_map, h1.len]) (fun z hz => by obtain ⟨y, _, rfl⟩ := List.mem_map.1 hz; exact wf_u8 (by omega) (by omega)) (fun j hj => by rw [hcs j hj, map_getD _ _ _ (by rw [h1.len]; exact hj)])
      have cv : ∀ d os, (convert 49 9 (.slice (some ⟨w.heap.size, 0, none⟩) n n)).run Try.prog (grow (redrawn wr d) os) = .ok (.string T) (grow (redrawn wr d) os) := fun d os => by
        rw [E]; exact conv_row n (fin.below (below_regrown wr d os))
      have c10' : ∀ d os, Calls Try.prog 40 #[.int .i64 (n : Int)] (grow (redrawn wr d) os) fun e w'' => e = .returned (.string S) ∧ ∃ p : Regrown, w'' = grow (redrawn wr p.d) p.os := fun d os =>
        Calls.regrown_of ((c10 _).mono fun e w' ⟨he, hq⟩ => ⟨he, below_one hq⟩)
      clear hcs ho fin c10 hown hgrow E h1
      go_wp2
      refine wp_region_quiet_below (by kernel_rfl) (by kernel_rfl) ?_
      repeat (go_big_quiet_step (first | (go_at_call 40; exact c10' _ _)))
      refine wpQuiet_nil ?_
      intro _ hw'
      obtain ⟨⟨dq, osq⟩, hw''⟩ := hw'
      subst hw''
      go_wp2
      go_ret
      exact ⟨rfl, below_then hbr (below_regrown wr dq osq)⟩

theorem refWeights_many (a0 : Option Addr) (n c0 : Nat) (m : Nat) (em : Hid (m = 65535)) (hm : m ≤ 65535) (zs ys : List Int) (T S : ByteArray) (w : World) (h1 : Reads .i8 w a0 m ys) (hmn : m ≤ n) (hn : 65535 < n) (hn' : (65535 : Int) < (n : Int)) (hmax : n ≤ 9223372036854775807)
    (E : T = bytesOf (ys.map (· % 256))) (hT : T.size = m) (h2 : S.size = 2) (c10 : ∀ w, Calls Try.prog 40 #[.int .i64 (m : Int)] w fun e w' => e = .returned (.string S) ∧ ∃ o, w' = w.alloc o) :
    Calls Try.prog 42 #[.slice a0 n c0] w fun e w' => e = .returned (.string (S ++ T)) ∧ Below w.heap.size w w' := by
  obtain ⟨i0, hi, hz0, hz1, hz2⟩ := info_parts info5
  have hx : max (65535 : Int) 0 = 65535 := by decide
  go_enter Try.func42, Try.ntmps42
  go_wp2_with (first | (at_make; refine wpList_make_full _ rfl (.tmp 9) (.tmp 9) 49 rfl w.heap.size 5 i0 (.int .u8 0) 1 Try.underlying49 hi hz0 hz1 .i64 .i64 _ _ 65535 rfl rfl rfl rfl (by rw [hz2]; decide) (by unfold maxLen; decide) (Nat.le_refl _) ?_; intro w1 hown hgrow))
  rw [← em.out] at hown
  have hbel : Below w.heap.size w w1 := (Below.refl _ _).grown hgrow (Nat.le_refl _) (fun k h => by cases h)
  go_wp2
  rw [show (65535 : Int) = (m : Int) by rw [em.out]; rfl, ← em.out]
  go_loopw [5] (fun i wr => ∃ k : Nat, k ≤ m ∧ i = .int .i64 k ∧ Below w.heap.size w wr ∧ ∃ cs, wr.ownsRow w.heap.size 5 1 (.slice (some ⟨w.heap.size, 0, none⟩) m m) m cs ∧ ∀ j, j < k → cs[j]? = some (.int .u8 (ys.getD j 0 % 256))) (fun i _ => m - (intOf i).toNat)
  case atStart => exact ⟨0, Nat.zero_le _, rfl, hbel, _, hown, fun j hj => by omega⟩
  case round =>
    obtain ⟨k, hk, rfl, hbr, cs, ho, hcs⟩ := hrel
    by_cases hlt : k < m
    · have hr := h1.below hbr
      obtain ⟨x, rfl⟩ := h1.some_ (by omega)
      have cx := hr.cell x rfl k hlt
      have wz := h1.wf k
      have hlen := own_length ho
      have cell : wr.cell? ⟨w.heap.size, k, none⟩ = cs[k]? := ho.cellAt k (by omega)
      obtain ⟨u, hu⟩ : ∃ u, cs[k]? = some u := ⟨cs[k], by simp [hlen, hlt]⟩
      rw [hu] at cell
      have froz := ho.frozenAt k
      have st := fun v => ho.stored k v
      have step := fun v (h : v = Value.int .u8 (ys.getD k 0 % 256)) => set_step (F := fun j => Value.int .u8 (ys.getD j 0 % 256)) hlen hlt h hcs
      obtain ⟨X, eX⟩ : ∃ X, ys.getD k 0 = X := ⟨_, rfl⟩
      rw [eX] at cx wz step
      have R : Hid (Below w.heap.size w (wr.setCell ⟨w.heap.size, k, none⟩ (.int .u8 (X % 256))) ∧ ∃ cs', (wr.setCell ⟨w.heap.size, k, none⟩ (.int .u8 (X % 256))).ownsRow w.heap.size 5 1 (.slice (some ⟨w.heap.size, 0, none⟩) m m) m cs' ∧ ∀ j, j < k + 1 → cs'[j]? = some (.int .u8 (ys.getD j 0 % 256))) :=
        ⟨hbr.setCell (Nat.le_refl _) _, _, (st _).1, step _ rfl⟩
      clear eX step st hcs ho hu hlen hr hbr
      go_wp2
      go_roundw
      case rel => exact ⟨k + 1, by omega, by go_num, R.out⟩
      case measure => simp [intOf]; omega
    · have e : m = k := by omega
      subst e
      have fin := own_reads_at (k := .u8) (zs := ys.map (· % 256)) ho (by rw [List.length_map, h1.len]) (fun z hz => by obtain ⟨y, _, rfl⟩ := List.mem_map.1 hz; exact wf_u8 (by omega) (by omega)) (fun j hj => by rw [hcs j hj, map_getD _ _ _ (by rw [h1.len]; exact hj)])
      have cv : ∀ d os, (convert 49 9 (.slice (some ⟨w.heap.size, 0, none⟩) m m)).run Try.prog (grow (redrawn wr d) os) = .ok (.string T) (grow (redrawn wr d) os) := fun d os => by
        rw [E]; exact conv_row m (fin.below (below_regrown wr d os))
      have c10' : ∀ d os, Calls Try.prog 40 #[.int .i64 (m : Int)] (grow (redrawn wr d) os) fun e w'' => e = .returned (.string S) ∧ ∃ p : Regrown, w'' = grow (redrawn wr p.d) p.os := fun d os =>
        Calls.regrown_of ((c10 _).mono fun e w' ⟨he, hq⟩ => ⟨he, below_one hq⟩)
      clear hcs ho fin c10 hown hgrow E h1
      go_wp2
      refine wp_region_quiet_below (by kernel_rfl) (by kernel_rfl) ?_
      repeat (go_big_quiet_step (first | (go_at_call 40; exact c10' _ _)))
      refine wpQuiet_nil ?_
      intro _ hw'
      obtain ⟨⟨dq, osq⟩, hw''⟩ := hw'
      subst hw''
      go_wp2
      go_ret
      exact ⟨rfl, below_then hbr (below_regrown wr dq osq)⟩

theorem refWeights_call (a0 : Option Addr) (n c0 : Nat) (zs : List Int) (w : World) (h0 : Reads .i8 w a0 n zs) :
    Calls Try.prog 42 #[.slice a0 n c0] w fun e w' => e = .returned (.string (wtsS zs)) ∧ Below w.heap.size w w' := by
  have hT := wtsB_size zs
  have F : wtsS zs = two (min zs.length 65535 : Nat) ++ wtsB zs := rfl
  rw [F]
  rw [h0.len] at hT ⊢
  by_cases h : n ≤ 65535
  · rw [show min n 65535 = n by omega] at hT ⊢
    exact refWeights_few a0 n c0 zs zs _ _ w h0 (Nat.le_refl _) h (by omega) h0.max (by unfold wtsB; rw [List.take_of_length_le (by rw [h0.len]; exact h)]) hT (two_size _) (fun w => refTwo_call _ w (wf_i64 (by omega) (by omega)))
  · rw [show min n 65535 = 65535 by omega] at hT ⊢
    obtain ⟨m, em⟩ : ∃ m : Nat, m = 65535 := ⟨_, rfl⟩
    rw [← em] at hT ⊢
    exact refWeights_many a0 n c0 m em (by omega) zs (zs.take m) _ _ w (reads_take h0 (by omega)) (by omega) (by omega) (by omega) h0.max (by unfold wtsB; rw [em]) hT (two_size _) (fun w => refTwo_call _ w (wf_i64 (by omega) (by omega)))
end

/- A reader as it lies in memory: what is left of a text, and the first error; its inner functions' contracts. -/
section
open Go.ChangeShapes Go.WideShapes Go.ChangeAt Go.RowKit
set_option linter.unusedVariables false

/-- at block b lies a reader (the program's or the document's, by its type): s is left, e is its error -/
structure Rd (t : TypeId) (w : World) (b : Nat) (s : ByteArray) (e : Int) : Prop where
  heap : w.heap[b]? = some (.cells #[.string s, .int .i64 e] t (0, 0))

/-- nothing but the block b has changed; there may be more -/
def Only (b : Nat) (w w' : World) : Prop := w.grownBy w' (some b)

theorem Only.refl (b : Nat) (w : World) : Only b w w := ⟨rfl, rfl, rfl, Nat.le_refl _, fun _ _ _ => rfl⟩
theorem Only.trans {b : Nat} {w w' w'' : World} (h : Only b w w') (k : Only b w' w'') : Only b w w'' :=
  ⟨k.os.trans h.os, k.tape.trans h.tape, k.output.trans h.output, Nat.le_trans h.size k.size, fun i hi hn => (k.block i (Nat.lt_of_lt_of_le hi h.size) hn).trans (h.block i hi hn)⟩
theorem Only.set (b o : Nat) (w : World) (v : Value) : Only b w (w.setCell ⟨b, o, none⟩ v) :=
  ⟨rfl, rfl, rfl, by simp [World.setCell], fun k _ hn => Below.heap_setCell _ _ _ _ (fun e => hn (by rw [e]))⟩
theorem Only.of_below {b : Nat} {w w' : World} (h : Below w.heap.size w w') : Only b w w' := ⟨h.os, h.tape, h.output, h.size, fun k hk _ => h.block k hk⟩
theorem Only.below {B b : Nat} {w w' w'' : World} (h : Below B w w') (hB : B ≤ b) (hw : B ≤ w'.heap.size) (k : Only b w' w'') : Below B w w'' :=
  h.grown k hw (fun i hi => by obtain rfl := Option.some.inj hi; exact hB)
theorem Only.drewN {b : Nat} {w w' : World} (h : Only b w w') (m : Nat) : Only b w (w'.drewN m) := ⟨h.os, h.tape, h.output, h.size, h.block⟩

variable {t : TypeId} {w w' : World} {b : Nat} {s : ByteArray} {e : Int}
theorem Rd.lt (h : Rd t w b s e) : b < w.heap.size := (Array.getElem?_eq_some_iff.1 h.heap).1
theorem Rd.c0 (h : Rd t w b s e) : w.cell? ⟨b, 0, none⟩ = some (.string s) := by simp [World.cell?, h.heap]
theorem Rd.c1 (h : Rd t w b s e) : w.cell? ⟨b, 1, none⟩ = some (.int .i64 e) := by simp [World.cell?, h.heap]
theorem Rd.f0 (h : Rd t w b s e) : w.frozen? ⟨b, 0, none⟩ = false := by simp [World.frozen?, h.heap]
theorem Rd.f1 (h : Rd t w b s e) : w.frozen? ⟨b, 1, none⟩ = false := by simp [World.frozen?, h.heap]
theorem Rd.set0 (h : Rd t w b s e) (s' : ByteArray) : Rd t (w.setCell ⟨b, 0, none⟩ (.string s')) b s' e := ⟨by simp [World.setCell, Array.getElem?_modify, h.heap]⟩
theorem Rd.set1 (h : Rd t w b s e) (e' : Int) : Rd t (w.setCell ⟨b, 1, none⟩ (.int .i64 e')) b s e' := ⟨by simp [World.setCell, Array.getElem?_modify, h.heap]⟩
theorem Rd.new (t : TypeId) (w : World) (s : ByteArray) (e : Int) : Rd t (w.alloc (.cells #[.string s, .int .i64 e] t)) w.heap.size s e := ⟨heap_alloc_new w _⟩
theorem Rd.kept (h : Rd t w b s e) (hb : Below w.heap.size w w') : Rd t w' b s e := ⟨(hb.block b h.lt).trans h.heap⟩
theorem Rd.other {c : Nat} (h : Rd t w b s e) (hb : Only c w w') (hc : b ≠ c) : Rd t w' b s e := ⟨(hb.block b h.lt (fun x => hc (Option.some.inj x))).trans h.heap⟩
theorem Rd.drew (h : Rd t w b s e) : Rd t w.drew b s e := ⟨h.heap⟩
theorem Rd.drewN (h : Rd t w b s e) (m : Nat) : Rd t (w.drewN m) b s e := ⟨h.heap⟩
theorem Reads.other {k : IntKind} {c : Nat} {a : Option Addr} {n : Nat} {zs : List Int} (h : Reads k w a n zs) (hb : Only c w w') (hc : ∀ x, a = some x → 0 < n → x.block ≠ c) : Reads k w' a n zs :=
  ⟨h.len, h.max, h.wf, h.some_, fun x hx i hi => hb.cell (h.cell x hx i hi) (fun e => hc x hx (by omega) (by by_cases hz : i = 0 <;> simpa [Addr.add, hz] using e))⟩

theorem failed_no (h : Rd 93 w b s 0) : Calls Try.prog 68 #[.pointer (some ⟨b, 1, none⟩)] w fun e w' => e = .returned (.bool false) ∧ w' = w := by
  have c1 := h.c1
  go_enter Try.func68, Try.ntmps68
  go_wp2
  go_ret
  exact ⟨rfl, rfl⟩
theorem failed_yes (h : Rd 93 w b s e) (he : e ≠ 0) : Calls Try.prog 68 #[.pointer (some ⟨b, 1, none⟩)] w fun r w' => r = .returned (.bool true) ∧ w' = w := by
  have c1 := h.c1
  have e1 : (e != 0) = true := by simpa using he
  go_enter Try.func68, Try.ntmps68
  go_wp2
  go_ret
  exact ⟨rfl, rfl⟩

theorem fail_no (h : Rd 93 w b s 0) (x : Int) : Calls Try.prog 67 #[.pointer (some ⟨b, 1, none⟩), .int .i64 x] w fun e w' => e = .returned (.tuple #[]) ∧ w' = w.setCell ⟨b, 1, none⟩ (.int .i64 x) := by
  have c1 := h.c1
  have f1 := h.f1
  have k := failed_no h
  go_enter Try.func67, Try.ntmps67
  go_wp2_with (go_at_call 68; refine k.mono ?_; rintro e w' ⟨rfl, hw⟩; obtain rfl := hw.symm)
  go_end0
  exact ⟨rfl, rfl⟩
theorem fail_yes (h : Rd 93 w b s e) (he : e ≠ 0) (x : Int) : Calls Try.prog 67 #[.pointer (some ⟨b, 1, none⟩), .int .i64 x] w fun e w' => e = .returned (.tuple #[]) ∧ w' = w := by
  have c1 := h.c1
  have f1 := h.f1
  have k := failed_yes h he
  go_enter Try.func67, Try.ntmps67
  go_wp2_with (go_at_call 68; refine k.mono ?_; rintro e w' ⟨rfl, hw⟩; obtain rfl := hw.symm)
  go_end0
  exact ⟨rfl, rfl⟩

theorem cut_few (h : Rd 93 w b s e) (n : Int) (hn : (s.size : Int) < n) : Calls Try.prog 69 #[.pointer (some ⟨b, 0, none⟩), .int .i64 n] w fun r w' => r = .returned (.tuple #[.string ⟨#[]⟩, .bool false]) ∧ w' = w := by
  have c0 := h.c0
  go_enter Try.func69, Try.ntmps69
  go_wp2
  go_ret2
  exact ⟨rfl, rfl⟩
theorem cut_ok (h : Rd 93 w b s e) (n : Nat) (hn : n ≤ s.size) : Calls Try.prog 69 #[.pointer (some ⟨b, 0, none⟩), .int .i64 n] w fun r w' => r = .returned (.tuple #[.string (s.extract 0 n), .bool true]) ∧ w' = w.setCell ⟨b, 0, none⟩ (.string (s.extract n s.size)) := by
  have c0 := h.c0
  have f0 := h.f0
  obtain ⟨A, eA⟩ : ∃ A, s.extract 0 n = A := ⟨_, rfl⟩
  obtain ⟨B, eB⟩ : ∃ B, s.extract n s.size = B := ⟨_, rfl⟩
  rw [eA, eB]
  have hn' : (n : Int) ≤ (s.size : Int) := by omega
  go_enter Try.func69, Try.ntmps69
  go_wp2
  go_ret2
  exact ⟨rfl, rfl⟩

theorem take_bad (h : Rd 93 w b s e) (he : e ≠ 0) (n : Int) : Calls Try.prog 66 #[.pointer (some ⟨b, 0, none⟩), .int .i64 n] w fun r w' => r = .returned (.tuple #[.string ⟨#[]⟩, .bool false]) ∧ w' = w := by
  have k := failed_yes h he
  go_enter Try.func66, Try.ntmps66
  go_wp2_with (go_at_call 68; refine k.mono ?_; rintro e w' ⟨rfl, hw⟩; obtain rfl := hw.symm)
  go_ret2
  exact ⟨rfl, rfl⟩
theorem take_few (h : Rd 93 w b s 0) (n : Int) (hn : (s.size : Int) < n) : Calls Try.prog 66 #[.pointer (some ⟨b, 0, none⟩), .int .i64 n] w fun r w' => r = .returned (.tuple #[.string ⟨#[]⟩, .bool false]) ∧ w' = w.setCell ⟨b, 1, none⟩ (.int .i64 22) := by
  have k := failed_no h
  have k1 := cut_few h n hn
  have k2 := fail_no h 22
  go_enter Try.func66, Try.ntmps66
  go_wp2_with (first
    | (go_at_call 68; refine k.mono ?_; rintro e w' ⟨rfl, hw⟩; obtain rfl := hw.symm)
    | (go_at_call 69; refine k1.mono ?_; rintro e w' ⟨rfl, hw⟩; obtain rfl := hw.symm)
    | (go_at_call 67; refine k2.mono ?_; rintro e w' ⟨rfl, hw⟩; subst hw))
  go_ret2
  exact ⟨rfl, rfl⟩
theorem take_ok (h : Rd 93 w b s 0) (n : Nat) (hn : n ≤ s.size) : Calls Try.prog 66 #[.pointer (some ⟨b, 0, none⟩), .int .i64 n] w fun r w' => r = .returned (.tuple #[.string (s.extract 0 n), .bool true]) ∧ w' = w.setCell ⟨b, 0, none⟩ (.string (s.extract n s.size)) := by
  have k := failed_no h
  have k1 := cut_ok h n hn
  obtain ⟨A, eA⟩ : ∃ A, s.extract 0 n = A := ⟨_, rfl⟩
  obtain ⟨B, eB⟩ : ∃ B, s.extract n s.size = B := ⟨_, rfl⟩
  rw [eA, eB] at k1 ⊢
  go_enter Try.func66, Try.ntmps66
  go_wp2_with (first
    | (go_at_call 68; refine k.mono ?_; rintro e w' ⟨rfl, hw⟩; obtain rfl := hw.symm)
    | (go_at_call 69; refine k1.mono ?_; rintro e w' ⟨rfl, hw⟩; subst hw))
  go_ret2
  exact ⟨rfl, rfl⟩

theorem newReader_call (s : ByteArray) (w : World) : Calls Try.prog 61 #[.string s] w fun r w' => r = .returned (.pointer (some ⟨w.heap.size, 0, none⟩)) ∧ w' = w.alloc (.cells #[.string s, .int .i64 0] 93) := by
  go_enter Try.func61, Try.ntmps61
  go_wp2
  go_ret
  exact ⟨rfl, rfl⟩
end

/- What is sealed is opened; with one byte changed it is not: of texts alone. -/
section
set_option linter.unusedVariables false

theorem text_ext {a b : ByteArray} (h : a.size = b.size) (hb : ∀ i, i < a.size → byteZ a i = byteZ b i) : a = b := by
  apply ByteArray.ext
  apply Array.ext
  · exact h
  · intro i h1 h2
    have := hb i h1
    rw [← byteZ_at a i h1, ← byteZ_at b i h2] at this
    exact UInt8.toNat_inj.1 this

theorem byteZ_part (s : ByteArray) (a b i : Nat) (hb : b ≤ s.size) (hi : a + i < b) : byteZ (s.extract a b) i = byteZ s (a + i) := by
  have h : i < (s.extract a b).size := by rw [ByteArray.size_extract]; omega
  unfold byteZ
  rw [dif_pos h, dif_pos (by omega), ByteArray.getElem_extract]

theorem byteZ_left (s u : ByteArray) (i : Nat) (hi : i < s.size) : byteZ (s ++ u) i = byteZ s i := by
  have h : i < (s ++ u).size := by rw [ByteArray.size_append]; omega
  unfold byteZ
  rw [dif_pos h, dif_pos hi, ByteArray.getElem_append_left hi]

theorem byteZ_right (s u : ByteArray) (i : Nat) (hi : i < u.size) : byteZ (s ++ u) (s.size + i) = byteZ u i := by
  have h : s.size + i < (s ++ u).size := by rw [ByteArray.size_append]; omega
  unfold byteZ
  rw [dif_pos h, dif_pos hi, ByteArray.getElem_append_right (by omega)]
  simp

theorem byteZ_of (zs : List Int) (i : Nat) (hi : i < zs.length) (h0 : 0 ≤ zs.getD i 0) (h1 : zs.getD i 0 < 256) : (byteZ (bytesOf zs) i : Int) = zs.getD i 0 := by
  have h : i < (bytesOf zs).size := by rw [bytesOf_size]; exact hi
  have e : zs.getD i 0 = zs[i] := by simp [List.getD, hi]
  rw [e] at h0 h1 ⊢
  unfold byteZ
  rw [dif_pos h]
  have : (bytesOf zs)[i]'h = UInt8.ofNat (zs[i]).toNat := by
    show (bytesOf zs).data[i] = _
    simp [bytesOf]
  rw [this, UInt8.toNat_ofNat']
  omega

theorem two_low (n : Int) : (byteZ (two n) 0 : Int) = n % 256 := byteZ_of [n % 256, n / 256 % 256] 0 (by simp) (by simp; omega) (by simp; omega)
theorem two_high (n : Int) : (byteZ (two n) 1 : Int) = n / 256 % 256 := byteZ_of [n % 256, n / 256 % 256] 1 (by simp) (by simp; omega) (by simp; omega)
theorem two_inj {x y : Int} (hx : 0 ≤ x ∧ x < 65536) (hy : 0 ≤ y ∧ y < 65536) (h : two x = two y) : x = y := by
  have a := two_low x
  have b := two_high x
  rw [h, two_low] at a
  rw [h, two_high] at b
  omega

theorem aTo_same {s u : ByteArray} : ∀ k, (∀ i, i < k → byteZ s i = byteZ u i) → aTo s k = aTo u k
  | 0, _ => rfl
  | k + 1, h => by
    simp only [aTo]
    rw [aTo_same k (fun i hi => h i (by omega)), h k (by omega)]

theorem aTo_other {s u : ByteArray} {p : Nat} (hp : ∀ i, i ≠ p → byteZ s i = byteZ u i) : ∀ k, p < k → (aTo u k - aTo s k - ((byteZ u p : Int) - byteZ s p)) % 255 = 0
  | 0, h => by omega
  | k + 1, h => by
    simp only [aTo]
    by_cases e : p = k
    · subst e
      rw [aTo_same (s := s) (u := u) p (fun i hi => hp i (by omega))]
      omega
    · have ih := aTo_other hp k (by omega)
      rw [hp k (by omega)]
      omega

theorem seal_size (s : ByteArray) : (sealS s).size = s.size + 2 := by
  unfold sealS
  rw [ByteArray.size_append, two_size]
theorem front_of {s u : ByteArray} (hu : u.size = 2) : front (s ++ u) = s := by
  have hs : (s ++ u).size = s.size + 2 := by rw [ByteArray.size_append, hu]
  unfold front
  rw [hs]
  apply text_ext
  · rw [ByteArray.size_extract]; omega
  · intro i hi
    rw [ByteArray.size_extract] at hi
    rw [byteZ_part _ _ _ _ (by omega) (by omega)]
    rw [show 0 + i = i by omega]
    exact byteZ_left _ _ _ (by omega)
theorem back_of {s u : ByteArray} (hu : u.size = 2) : back (s ++ u) = u := append_inj_right (a := s) (by
  have := front_back (s ++ u)
  rwa [front_of hu] at this)

theorem openE_seal (s : ByteArray) : openE (sealS s) = 0 := by
  unfold openE
  rw [if_neg (by rw [seal_size]; omega)]
  unfold sealS
  rw [front_of (two_size _), back_of (two_size _), if_pos rfl]
theorem openT_seal (s : ByteArray) : openT (sealS s) = s := by
  unfold openT
  rw [if_pos (openE_seal s)]
  unfold sealS
  rw [front_of (two_size _)]

/-- a sealed text with one byte changed -/
theorem openE_changed {s u : ByteArray} {p : Nat} (hu : u.size = s.size + 2) (hp : p < s.size + 2) (he : ∀ i, i ≠ p → byteZ (sealS s) i = byteZ u i) (hd : byteZ (sealS s) p ≠ byteZ u p)
    (hq : p < s.size → byteZ (sealS s) p % 255 ≠ byteZ u p % 255) : openE u = 24 := by
  unfold openE
  rw [if_neg (by omega), if_neg]
  intro h
  have hf : (front u).size = s.size := by unfold front; rw [ByteArray.size_extract]; omega
  have hfb : ∀ i, i < s.size → byteZ (front u) i = byteZ u i := fun i hi => by
    unfold front
    rw [byteZ_part _ _ _ _ (by omega) (by omega)]
    congr 1
    omega
  have hbb : ∀ i, i < 2 → byteZ (back u) i = byteZ u (s.size + i) := fun i hi => by
    unfold back
    rw [byteZ_part _ _ _ _ (by omega) (by omega)]
    congr 1
    omega
  have hsl : ∀ i, i < s.size → byteZ (sealS s) i = byteZ s i := fun i hi => byteZ_left _ _ _ hi
  have hsr : ∀ i, i < 2 → byteZ (sealS s) (s.size + i) = byteZ (two (sumZ s)) i := fun i hi => byteZ_right _ _ _ (by rw [two_size]; exact hi)
  by_cases hps : p < s.size
  · have e2 : two (sumZ (front u)) = two (sumZ s) := by
      rw [h]
      apply text_ext
      · unfold back; rw [ByteArray.size_extract, two_size]; omega
      · intro i hi
        have hi2 : i < 2 := by unfold back at hi; rw [ByteArray.size_extract] at hi; omega
        rw [hbb i hi2, ← hsr i hi2, he _ (by omega)]
    have e3 := two_inj (sumZ_bounds _) (sumZ_bounds _) e2
    have a1 := aTo_bounds (front u) s.size
    have a2 := aTo_bounds s s.size
    have b1 := bTo_bounds (front u) s.size
    have b2 := bTo_bounds s s.size
    unfold sumZ at e3
    rw [hf] at e3
    have ea : aTo (front u) s.size = aTo s s.size := by omega
    have hz : ∀ (v : ByteArray) i, v.size ≤ i → byteZ v i = 0 := fun v i hi => by unfold byteZ; rw [dif_neg (by omega)]
    have ch := aTo_other (s := s) (u := front u) (p := p) (fun i hi => by
      by_cases h1 : i < s.size
      · rw [hfb i h1, ← hsl i h1, he i hi]
      · rw [hz _ _ (by omega), hz _ _ (by omega)]) s.size hps
    rw [ea, hfb p hps, ← hsl p hps] at ch
    have := hq hps
    omega
  · have ef : front u = s := by
      apply text_ext hf
      intro i hi
      rw [hfb i (by omega), ← he i (by omega), hsl i (by omega)]
    rw [ef] at h
    apply hd
    obtain ⟨j, rfl⟩ : ∃ j, p = s.size + j := ⟨p - s.size, by omega⟩
    rw [hsr j (by omega), h, hbb j (by omega)]
end

/- What a reader's Two and End give back, the program's and the document's: contracts of the calls. -/
section
open Go.ChangeShapes Go.WideShapes Go.ChangeAt Go.RowKit
set_option linter.unusedVariables false

/-- what Two answers, what is left behind it, and the error -/
def twoV (s : ByteArray) (e : Int) : Int := if e ≠ 0 ∨ s.size < 2 then 0 else byteZ s 0 + 256 * byteZ s 1
def twoS (s : ByteArray) (e : Int) : ByteArray := if e ≠ 0 ∨ s.size < 2 then s else s.extract 2 s.size
def twoE (s : ByteArray) (e : Int) : Int := if e ≠ 0 then e else if s.size < 2 then 22 else 0
def endV (s : ByteArray) (e : Int) : Int := if e = 0 ∧ 0 < s.size then 23 else e

theorem byteZ_extract (s : ByteArray) (n k : Nat) (hn : n ≤ s.size) (hk : k < n) : byteZ (s.extract 0 n) k = byteZ s k := by
  have h : k < (s.extract 0 n).size := by rw [ByteArray.size_extract]; omega
  unfold byteZ
  rw [dif_pos h, dif_pos (by omega), ByteArray.getElem_extract]
  simp

variable {t : TypeId} {w w' : World} {b : Nat} {s : ByteArray} {e : Int}

theorem two_bad (h : Rd 93 w b s e) (he : e ≠ 0) : Calls Try.prog 62 #[.pointer (some ⟨b, 0, none⟩)] w fun r w' => r = .returned (.int .i64 0) ∧ w' = w := by
  have k := take_bad h he 2
  go_enter Try.func62, Try.ntmps62
  go_wp2_with (go_at_call 66; refine k.mono ?_; rintro e w' ⟨rfl, hw⟩; obtain rfl := hw.symm)
  go_ret
  exact ⟨rfl, rfl⟩
theorem two_few (h : Rd 93 w b s 0) (hs : s.size < 2) : Calls Try.prog 62 #[.pointer (some ⟨b, 0, none⟩)] w fun r w' => r = .returned (.int .i64 0) ∧ w' = w.setCell ⟨b, 1, none⟩ (.int .i64 22) := by
  have k := take_few h 2 (by omega)
  go_enter Try.func62, Try.ntmps62
  go_wp2_with (go_at_call 66; refine k.mono ?_; rintro e w' ⟨rfl, hw⟩; subst hw)
  go_ret
  exact ⟨rfl, rfl⟩
theorem two_ok (h : Rd 93 w b s 0) (hs : 2 ≤ s.size) : Calls Try.prog 62 #[.pointer (some ⟨b, 0, none⟩)] w fun r w' => r = .returned (.int .i64 (byteZ s 0 + 256 * byteZ s 1)) ∧ ∃ m, w' = (w.setCell ⟨b, 0, none⟩ (.string (s.extract 2 s.size))).drewN m := by
  have k := take_ok h 2 hs
  have z0 := byteZ_extract s 2 0 hs (by omega)
  have z1 := byteZ_extract s 2 1 hs (by omega)
  have hA : (s.extract 0 2).size = 2 := by rw [ByteArray.size_extract]; omega
  obtain ⟨A, eA⟩ : ∃ A, s.extract 0 2 = A := ⟨_, rfl⟩
  obtain ⟨B, eB⟩ : ∃ B, s.extract 2 s.size = B := ⟨_, rfl⟩
  rw [eA, eB] at k
  rw [eA] at z0 z1 hA
  rw [eB]
  have g0 := byteZ_at A 0 (by omega)
  have g1 := byteZ_at A 1 (by omega)
  have l0 := byteZ_lt s 0
  have l1 := byteZ_lt s 1
  obtain ⟨X, eX⟩ : ∃ X, byteZ s 0 = X := ⟨_, rfl⟩
  obtain ⟨Y, eY⟩ : ∃ Y, byteZ s 1 = Y := ⟨_, rfl⟩
  rw [z0, eX] at g0
  rw [z1, eY] at g1
  rw [eX] at l0 ⊢
  rw [eY] at l1 ⊢
  clear z0 z1 eX eY eA eB
  go_enter Try.func62, Try.ntmps62
  go_wp2_with (go_at_call 66; refine k.mono ?_; rintro e w' ⟨rfl, hw⟩; have Hw : Hid (w' = w.setCell ⟨b, 0, none⟩ (.string B)) := hw; clear hw)
  go_quiet (fail)
  go_wp2
  go_ret
  exact ⟨by show Ending.returned (Value.int .i64 ((X : Int) + (Y : Int) * 256)) = _; rw [Int.mul_comm], nq, by rw [Hw.out]⟩

theorem two_reader (h : Rd 93 w b s e) : Calls Try.prog 62 #[.pointer (some ⟨b, 0, none⟩)] w fun r w' => r = .returned (.int .i64 (twoV s e)) ∧ Rd 93 w' b (twoS s e) (twoE s e) ∧ Only b w w' := by
  by_cases he : e = 0
  · subst he
    by_cases hs : s.size < 2
    · have e1 : twoV s 0 = 0 := by unfold twoV; rw [if_pos (.inr hs)]
      have e2 : twoS s 0 = s := by unfold twoS; rw [if_pos (.inr hs)]
      have e3 : twoE s 0 = 22 := by unfold twoE; rw [if_neg (by simp), if_pos hs]
      rw [e1, e2, e3]
      exact (two_few h hs).mono fun r w' ⟨hr, hw⟩ => ⟨hr, hw ▸ h.set1 22, hw ▸ Only.set _ _ _ _⟩
    · have e1 : twoV s 0 = byteZ s 0 + 256 * byteZ s 1 := by unfold twoV; rw [if_neg (by simp; omega)]
      have e2 : twoS s 0 = s.extract 2 s.size := by unfold twoS; rw [if_neg (by simp; omega)]
      have e3 : twoE s 0 = 0 := by unfold twoE; rw [if_neg (by simp), if_neg hs]
      rw [e1, e2, e3]
      refine (two_ok h (by omega)).mono fun r w' ⟨hr, m, hw⟩ => ⟨hr, ?_, ?_⟩
      · rw [hw]; exact (h.set0 _).drewN m
      · rw [hw]; exact (Only.set _ _ _ _).drewN m
  · have e1 : twoV s e = 0 := by unfold twoV; rw [if_pos (.inl he)]
    have e2 : twoS s e = s := by unfold twoS; rw [if_pos (.inl he)]
    have e3 : twoE s e = e := by unfold twoE; rw [if_pos he]
    rw [e1, e2, e3]
    exact (two_bad h he).mono fun r w' ⟨hr, hw⟩ => ⟨hr, hw ▸ h, hw ▸ Only.refl _ _⟩

theorem refTwo_bad (h : Rd 75 w b s e) (he : e ≠ 0) : Calls Try.prog 51 #[.pointer (some ⟨b, 0, none⟩)] w fun r w' => r = .returned (.int .i64 0) ∧ w' = w := by
  have c0 := h.c0
  have c1 := h.c1
  have e1 : (e != 0) = true := by simpa using he
  go_enter Try.func51, Try.ntmps51
  go_wp2
  go_ret
  exact ⟨rfl, rfl⟩
theorem refTwo_few (h : Rd 75 w b s 0) (hs : s.size < 2) : Calls Try.prog 51 #[.pointer (some ⟨b, 0, none⟩)] w fun r w' => r = .returned (.int .i64 0) ∧ w' = w.setCell ⟨b, 1, none⟩ (.int .i64 22) := by
  have c0 := h.c0
  have c1 := h.c1
  have f1 := h.f1
  go_enter Try.func51, Try.ntmps51
  go_wp2
  go_ret
  exact ⟨rfl, rfl⟩
theorem refTwo_ok (h : Rd 75 w b s 0) (hs : 2 ≤ s.size) (hm : s.size ≤ 9223372036854775807) : Calls Try.prog 51 #[.pointer (some ⟨b, 0, none⟩)] w fun r w' => r = .returned (.int .i64 (byteZ s 0 + 256 * byteZ s 1)) ∧ ∃ m, w' = (w.drewN m).setCell ⟨b, 0, none⟩ (.string (s.extract 2 s.size)) := by
  have c0 := h.c0
  have c1 := h.c1
  have f0 := h.f0
  have g0 := byteZ_at s 0 (by omega)
  have g1 := byteZ_at s 1 (by omega)
  have l0 := byteZ_lt s 0
  have l1 := byteZ_lt s 1
  obtain ⟨X, eX⟩ : ∃ X, byteZ s 0 = X := ⟨_, rfl⟩
  obtain ⟨Y, eY⟩ : ∃ Y, byteZ s 1 = Y := ⟨_, rfl⟩
  obtain ⟨B, eB⟩ : ∃ B, s.extract 2 s.size = B := ⟨_, rfl⟩
  rw [eX] at g0 l0 ⊢
  rw [eY] at g1 l1 ⊢
  rw [eB]
  have hs' : (2 : Int) ≤ (s.size : Int) := by omega
  go_enter Try.func51, Try.ntmps51
  go_wp2
  go_quiet (fail)
  go_wp2
  go_ret
  exact ⟨rfl, nq, rfl⟩

theorem refTwo_reader (h : Rd 75 w b s e) (hm : s.size ≤ 9223372036854775807) : Calls Try.prog 51 #[.pointer (some ⟨b, 0, none⟩)] w fun r w' => r = .returned (.int .i64 (twoV s e)) ∧ Rd 75 w' b (twoS s e) (twoE s e) ∧ Only b w w' := by
  by_cases he : e = 0
  · subst he
    by_cases hs : s.size < 2
    · have e1 : twoV s 0 = 0 := by unfold twoV; rw [if_pos (.inr hs)]
      have e2 : twoS s 0 = s := by unfold twoS; rw [if_pos (.inr hs)]
      have e3 : twoE s 0 = 22 := by unfold twoE; rw [if_neg (by simp), if_pos hs]
      rw [e1, e2, e3]
      exact (refTwo_few h hs).mono fun r w' ⟨hr, hw⟩ => ⟨hr, hw ▸ h.set1 22, hw ▸ Only.set _ _ _ _⟩
    · have e1 : twoV s 0 = byteZ s 0 + 256 * byteZ s 1 := by unfold twoV; rw [if_neg (by simp; omega)]
      have e2 : twoS s 0 = s.extract 2 s.size := by unfold twoS; rw [if_neg (by simp; omega)]
      have e3 : twoE s 0 = 0 := by unfold twoE; rw [if_neg (by simp), if_neg hs]
      rw [e1, e2, e3]
      refine (refTwo_ok h (by omega) hm).mono fun r w' ⟨hr, m, hw⟩ => ⟨hr, ?_, ?_⟩
      · rw [hw]; exact (h.drewN m).set0 _
      · rw [hw]; exact ((Only.refl _ _).drewN m).trans (Only.set _ _ _ _)
  · have e1 : twoV s e = 0 := by unfold twoV; rw [if_pos (.inl he)]
    have e2 : twoS s e = s := by unfold twoS; rw [if_pos (.inl he)]
    have e3 : twoE s e = e := by unfold twoE; rw [if_pos he]
    rw [e1, e2, e3]
    exact (refTwo_bad h he).mono fun r w' ⟨hr, hw⟩ => ⟨hr, hw ▸ h, hw ▸ Only.refl _ _⟩

theorem empty_text {s : ByteArray} (h : ¬ 0 < s.size) : s = ⟨#[]⟩ := by
  apply ByteArray.ext
  apply Array.eq_empty_of_size_eq_zero
  have : s.data.size = s.size := rfl
  omega

theorem text_some {s : ByteArray} (h : 0 < s.size) : s.toList.isEmpty = false := by
  have := text_other (a := s) (b := ⟨#[]⟩) (by rintro rfl; exact absurd h (by decide))
  simpa using this

theorem end_reader (h : Rd 93 w b s e) : Calls Try.prog 64 #[.pointer (some ⟨b, 0, none⟩)] w fun r w' => r = .returned (.int .i64 (endV s e)) ∧ w' = w := by
  have c0 := h.c0
  have c1 := h.c1
  by_cases he : e = 0
  · subst he
    have k := failed_no h
    by_cases hs : 0 < s.size
    · have q := text_some hs
      have e1 : endV s 0 = 23 := by unfold endV; rw [if_pos ⟨rfl, hs⟩]
      rw [e1]
      go_enter Try.func64, Try.ntmps64
      go_wp2_with (go_at_call 68; refine k.mono ?_; rintro e w' ⟨rfl, hw⟩; obtain rfl := hw.symm)
      go_ret
      exact ⟨rfl, rfl⟩
    · have e1 : endV s 0 = 0 := by unfold endV; rw [if_neg (by omega)]
      rw [e1]
      obtain rfl := empty_text hs
      go_enter Try.func64, Try.ntmps64
      go_wp2_with (go_at_call 68; refine k.mono ?_; rintro e w' ⟨rfl, hw⟩; obtain rfl := hw.symm)
      go_ret
      exact ⟨rfl, rfl⟩
  · have k := failed_yes h he
    have e1 : endV s e = e := by unfold endV; rw [if_neg (by omega)]
    rw [e1]
    go_enter Try.func64, Try.ntmps64
    go_wp2_with (go_at_call 68; refine k.mono ?_; rintro e w' ⟨rfl, hw⟩; obtain rfl := hw.symm)
    go_ret
    exact ⟨rfl, rfl⟩

theorem refEnd_reader (h : Rd 75 w b s e) : Calls Try.prog 53 #[.pointer (some ⟨b, 0, none⟩)] w fun r w' => r = .returned (.int .i64 (endV s e)) ∧ w' = w := by
  have c0 := h.c0
  have c1 := h.c1
  by_cases he : e = 0
  · subst he
    by_cases hs : 0 < s.size
    · have q := text_some hs
      have e1 : endV s 0 = 23 := by unfold endV; rw [if_pos ⟨rfl, hs⟩]
      rw [e1]
      go_enter Try.func53, Try.ntmps53
      go_wp2
      go_ret
      exact ⟨rfl, rfl⟩
    · have e1 : endV s 0 = 0 := by unfold endV; rw [if_neg (by omega)]
      rw [e1]
      obtain rfl := empty_text hs
      go_enter Try.func53, Try.ntmps53
      go_wp2
      go_ret
      exact ⟨rfl, rfl⟩
  · have e1 : endV s e = e := by unfold endV; rw [if_neg (by omega)]
    have e2 : (e == 0) = false := by simpa using he
    rw [e1]
    go_enter Try.func53, Try.ntmps53
    go_wp2
    go_ret
    exact ⟨rfl, rfl⟩
end

/- A text as a row of bytes of the call's own, and one byte of it set. -/
section
open Go.ChangeShapes Go.WideShapes Go.ChangeAt Go.RowKit
set_option linter.unusedVariables false

def bytesL (s : ByteArray) : List Int := (List.range s.size).map fun j => (byteZ s j : Int)
theorem bytesL_length (s : ByteArray) : (bytesL s).length = s.size := by simp [bytesL]
theorem bytesL_at (s : ByteArray) (j : Nat) (h : j < s.size) : (bytesL s).getD j 0 = byteZ s j := by simp [bytesL, List.getD, h]

theorem bytes_of (s : ByteArray) (hs : s.size ≤ 9223372036854775807) (w : World) : ∃ c W, (convert 9 49 (.string s)).run Try.prog w = .ok (.slice (some ⟨w.heap.size, 0, none⟩) s.size c) W ∧ s.size ≤ c ∧ Below w.heap.size w W ∧
    Reads .u8 W (some ⟨w.heap.size, 0, none⟩) s.size (bytesL s) ∧ ∀ j, j < s.size → W.frozen? ⟨w.heap.size, j, none⟩ = false := by
  refine ⟨_, _, run_bytes_of_string w 9 49 5 s Try.underlying9 Try.underlying49 Try.underlying5, grownCap_ge _ _ _ _, below_new (Below.refl _ _).drew _, ?_, ?_⟩
  · refine Reads.of_row (bytesL_length s) hs (fun z hz => ?_) fun i hi => ?_
    · obtain ⟨j, _, rfl⟩ := List.mem_map.1 hz
      have := byteZ_lt s j
      exact wf_u8 (by omega) (by omega)
    · have e : (⟨w.heap.size, 0, none⟩ : Addr).add i = ⟨w.heap.size, i, none⟩ := by by_cases h : i = 0 <;> simp [Addr.add, h]
      rw [e, bytesL_at s i hi]
      have := World.cell?_alloc_mark w.drew (bytesRow s (grownCap w s.size 0 5)) 5 ((bytesRow s (grownCap w s.size 0 5)).size, (bytesRow s (grownCap w s.size 0 5)).size + 1) i
      refine this.trans ?_
      rw [bytesRow_at s _ i hi]
      congr 2
      rw [← byteZ_at s i hi]
      rfl
  · intro j hj
    have := World.frozen?_alloc_mark w.drew (bytesRow s (grownCap w s.size 0 5)) 5 (bytesRow s (grownCap w s.size 0 5)).size ((bytesRow s (grownCap w s.size 0 5)).size + 1) j
    refine this.trans ?_
    have hz : (bytesRow s (grownCap w s.size 0 5)).size ≥ s.size := by
      unfold bytesRow
      rw [Array.size_append, Array.size_map]
      have : s.data.size = s.size := rfl
      omega
    simp
    omega

theorem reads_set {w : World} {g n k : Nat} {zs : List Int} {v : Int} (h : Reads .u8 w (some ⟨g, 0, none⟩) n zs) (hk : k < n) (hv : (Lit.int .u8 v).wf = true) : Reads .u8 (w.setCell ⟨g, k, none⟩ (.int .u8 v)) (some ⟨g, 0, none⟩) n (zs.set k v) := by
  have ad : ∀ i, (⟨g, 0, none⟩ : Addr).add i = ⟨g, i, none⟩ := fun i => by by_cases h : i = 0 <;> simp [Addr.add, h]
  have hl := h.len
  refine Reads.of_row (by simp [hl]) h.max (fun z hz => ?_) fun i hi => ?_
  · rcases List.mem_or_eq_of_mem_set hz with h1 | h1
    · exact h.wf_mem z h1
    · subst h1; exact hv
  · have ck := h.cell _ rfl i hi
    rw [ad] at ck ⊢
    by_cases e : k = i
    · subst e
      rw [World.cell?_setCell_same _ _ _ ck]
      simp [List.getD, hl, hk]
    · rw [World.cell?_setCell_other _ _ _ _ (by simp_all), ck]
      simp [List.getD, List.getElem?_set_ne e]
end

/- What a reader's Weights give back, the program's: the contract of the call. -/
section
open Go.ChangeShapes Go.WideShapes Go.ChangeAt Go.RowKit
set_option linter.unusedVariables false

/-- a byte as a weight -/
def i8 (x : Int) : Int := (x + 128) % 256 - 128
def i8s (s : ByteArray) (n : Nat) : List Int := (List.range n).map fun j => i8 (byteZ s j)

theorem i8s_length (s : ByteArray) (n : Nat) : (i8s s n).length = n := by simp [i8s]
theorem i8s_at (s : ByteArray) (n j : Nat) (h : j < n) : (i8s s n).getD j 0 = i8 (byteZ s j) := by simp [i8s, List.getD, h]
theorem wf_i8 (x : Int) : (Lit.int .i8 (i8 x)).wf = true := by
  have : -128 ≤ i8 x ∧ i8 x ≤ 127 := by unfold i8; omega
  simpa [Lit.wf, IntKind.min, IntKind.max, IntKind.signed, IntKind.bits] using this
theorem wrap_i8 (x : Int) : IntKind.i8.wrap x = i8 x := by
  unfold IntKind.wrap i8
  simp [IntKind.signed, IntKind.bits]
  omega
theorem i8_small {x : Int} (h0 : 0 ≤ x) (h1 : x < 128) : i8 x = x := by unfold i8; omega

variable {t : TypeId} {w w' : World} {b : Nat} {s : ByteArray} {e : Int}

theorem weights_same (n V : Int) (A : ByteArray) (P1 P3 : World → Prop) (hv : (V != n) = false) (hA : A.size ≤ 65535)
    (c19 : Calls Try.prog 62 #[.pointer (some ⟨b, 0, none⟩)] w fun r w' => r = .returned (.int .i64 V) ∧ P1 w')
    (c27 : ∀ w1, P1 w1 → Calls Try.prog 66 #[.pointer (some ⟨b, 0, none⟩), .int .i64 n] w1 fun r w' => (∃ B, r = .returned (.tuple #[.string A, .bool B])) ∧ P3 w') :
    Calls Try.prog 63 #[.pointer (some ⟨b, 0, none⟩), .int .i64 n] w fun r w' => ∃ w3 a c, r = .returned (.slice a A.size c) ∧ P3 w3 ∧ Below w3.heap.size w3 w' ∧ Reads .i8 w' a A.size (i8s A A.size) ∧ (∀ x, a = some x → w3.heap.size ≤ x.block) ∧ A.size ≤ c ∧ ∃ x, a = some x := by
  obtain ⟨i0, hi, hz0, hz1, hz2⟩ := info_parts info46
  go_enter Try.func63, Try.ntmps63
  go_wp2_with (first
    | (go_at_call 62; refine c19.mono ?_; rintro e w1 ⟨rfl, p1⟩)
    | (go_at_call 66; refine (c27 _ p1).mono ?_; rintro e w3 ⟨⟨B, rfl⟩, p3⟩)
    | (at_make; refine wpList_make_full _ rfl (.tmp 24) (.tmp 24) 26 rfl w3.heap.size 46 i0 (.int .i8 0) 1 Try.underlying26 hi hz0 hz1 .i64 .i64 _ _ A.size rfl rfl rfl rfl (by rw [hz2]; omega) (by unfold maxLen; omega) (Nat.le_refl _) ?_; intro w4 hown hgrow))
  have hbel : Below w3.heap.size w3 w4 := (Below.refl _ _).grown hgrow (Nat.le_refl _) (fun k h => by cases h)
  clear c27 c19 p1 hgrow
  go_wp2
  go_loopw [28] (fun i wr => ∃ k : Nat, k ≤ A.size ∧ i = .int .i64 k ∧ Below w3.heap.size w3 wr ∧ ∃ cs, wr.ownsRow w3.heap.size 46 1 (.slice (some ⟨w3.heap.size, 0, none⟩) A.size A.size) A.size cs ∧ ∀ j, j < k → cs[j]? = some (.int .i8 (i8 (byteZ A j)))) (fun i _ => A.size - (intOf i).toNat)
  case atStart => exact ⟨0, Nat.zero_le _, rfl, hbel, _, hown, fun j hj => by omega⟩
  case round =>
    obtain ⟨k, hk, rfl, hbr, cs, ho, hcs⟩ := hrel
    by_cases hlt : k < A.size
    · have hlen := own_length ho
      have cell : wr.cell? ⟨w3.heap.size, k, none⟩ = cs[k]? := ho.cellAt k (by omega)
      obtain ⟨u, hu⟩ : ∃ u, cs[k]? = some u := ⟨cs[k], by simp [hlen, hlt]⟩
      rw [hu] at cell
      have froz := ho.frozenAt k
      have st := fun v => ho.stored k v
      have step := fun v (h : v = Value.int .i8 (i8 (byteZ A k))) => set_step (F := fun j => Value.int .i8 (i8 (byteZ A j))) hlen hlt h hcs
      have eB := byteZ_at A k hlt
      have lB := byteZ_lt A k
      obtain ⟨X, eX⟩ : ∃ X, byteZ A k = X := ⟨_, rfl⟩
      rw [eX] at eB lB step
      have hw8 := wrap_i8 (X : Int)
      have R : Hid (Below w3.heap.size w3 (wr.setCell ⟨w3.heap.size, k, none⟩ (.int .i8 (i8 X))) ∧ ∃ cs', (wr.setCell ⟨w3.heap.size, k, none⟩ (.int .i8 (i8 X))).ownsRow w3.heap.size 46 1 (.slice (some ⟨w3.heap.size, 0, none⟩) A.size A.size) A.size cs' ∧ ∀ j, j < k + 1 → cs'[j]? = some (.int .i8 (i8 (byteZ A j)))) :=
        ⟨hbr.setCell (Nat.le_refl _) _, _, (st _).1, step _ rfl⟩
      clear eX step st hcs ho hu hlen hbr
      go_wp2
      go_roundw
      case rel => exact ⟨k + 1, by omega, by go_num, R.out⟩
      case measure => simp [intOf]; omega
    · have e : A.size = k := by omega
      subst e
      have fin := own_reads_at (k := .i8) (zs := i8s A A.size) ho (i8s_length _ _) (fun z hz => by obtain ⟨y, _, rfl⟩ := List.mem_map.1 hz; exact wf_i8 _) (fun j hj => by rw [hcs j hj, i8s_at _ _ _ hj])
      clear hcs ho
      go_wp2
      go_ret
      exact ⟨w3, _, _, rfl, p3, hbr, fin, (fun x hx => by obtain rfl := Option.some.inj hx; exact Nat.le_refl _), Nat.le_refl _, _, rfl⟩

theorem weights_other (n V : Int) (A : ByteArray) (P1 P2 P3 : World → Prop) (hv : (V != n) = true) (hA : A.size ≤ 65535)
    (c19 : Calls Try.prog 62 #[.pointer (some ⟨b, 0, none⟩)] w fun r w' => r = .returned (.int .i64 V) ∧ P1 w')
    (c28 : ∀ w1, P1 w1 → Calls Try.prog 67 #[.pointer (some ⟨b, 1, none⟩), .int .i64 21] w1 fun r w' => r = .returned (.tuple #[]) ∧ P2 w')
    (c27 : ∀ w1, P2 w1 → Calls Try.prog 66 #[.pointer (some ⟨b, 0, none⟩), .int .i64 n] w1 fun r w' => (∃ B, r = .returned (.tuple #[.string A, .bool B])) ∧ P3 w') :
    Calls Try.prog 63 #[.pointer (some ⟨b, 0, none⟩), .int .i64 n] w fun r w' => ∃ w3 a c, r = .returned (.slice a A.size c) ∧ P3 w3 ∧ Below w3.heap.size w3 w' ∧ Reads .i8 w' a A.size (i8s A A.size) ∧ (∀ x, a = some x → w3.heap.size ≤ x.block) ∧ A.size ≤ c ∧ ∃ x, a = some x := by
  obtain ⟨i0, hi, hz0, hz1, hz2⟩ := info_parts info46
  go_enter Try.func63, Try.ntmps63
  go_wp2_with (first
    | (go_at_call 62; refine c19.mono ?_; rintro e w1 ⟨rfl, p1⟩)
    | (go_at_call 67; refine (c28 _ p1).mono ?_; rintro e w2 ⟨rfl, p2⟩)
    | (go_at_call 66; refine (c27 _ p2).mono ?_; rintro e w3 ⟨⟨B, rfl⟩, p3⟩)
    | (at_make; refine wpList_make_full _ rfl (.tmp 24) (.tmp 24) 26 rfl w3.heap.size 46 i0 (.int .i8 0) 1 Try.underlying26 hi hz0 hz1 .i64 .i64 _ _ A.size rfl rfl rfl rfl (by rw [hz2]; omega) (by unfold maxLen; omega) (Nat.le_refl _) ?_; intro w4 hown hgrow))
  have hbel : Below w3.heap.size w3 w4 := (Below.refl _ _).grown hgrow (Nat.le_refl _) (fun k h => by cases h)
  clear c27 c28 c19 p1 p2 hgrow
  go_wp2
  go_loopw [28] (fun i wr => ∃ k : Nat, k ≤ A.size ∧ i = .int .i64 k ∧ Below w3.heap.size w3 wr ∧ ∃ cs, wr.ownsRow w3.heap.size 46 1 (.slice (some ⟨w3.heap.size, 0, none⟩) A.size A.size) A.size cs ∧ ∀ j, j < k → cs[j]? = some (.int .i8 (i8 (byteZ A j)))) (fun i _ => A.size - (intOf i).toNat)
  case atStart => exact ⟨0, Nat.zero_le _, rfl, hbel, _, hown, fun j hj => by omega⟩
  case round =>
    obtain ⟨k, hk, rfl, hbr, cs, ho, hcs⟩ := hrel
    by_cases hlt : k < A.size
    · have hlen := own_length ho
      have cell : wr.cell? ⟨w3.heap.size, k, none⟩ = cs[k]? := ho.cellAt k (by omega)
      obtain ⟨u, hu⟩ : ∃ u, cs[k]? = some u := ⟨cs[k], by simp [hlen, hlt]⟩
      rw [hu] at cell
      have froz := ho.frozenAt k
      have st := fun v => ho.stored k v
      have step := fun v (h : v = Value.int .i8 (i8 (byteZ A k))) => set_step (F := fun j => Value.int .i8 (i8 (byteZ A j))) hlen hlt h hcs
      have eB := byteZ_at A k hlt
      have lB := byteZ_lt A k
      obtain ⟨X, eX⟩ : ∃ X, byteZ A k = X := ⟨_, rfl⟩
      rw [eX] at eB lB step
      have hw8 := wrap_i8 (X : Int)
      have R : Hid (Below w3.heap.size w3 (wr.setCell ⟨w3.heap.size, k, none⟩ (.int .i8 (i8 X))) ∧ ∃ cs', (wr.setCell ⟨w3.heap.size, k, none⟩ (.int .i8 (i8 X))).ownsRow w3.heap.size 46 1 (.slice (some ⟨w3.heap.size, 0, none⟩) A.size A.size) A.size cs' ∧ ∀ j, j < k + 1 → cs'[j]? = some (.int .i8 (i8 (byteZ A j)))) :=
        ⟨hbr.setCell (Nat.le_refl _) _, _, (st _).1, step _ rfl⟩
      clear eX step st hcs ho hu hlen hbr
      go_wp2
      go_roundw
      case rel => exact ⟨k + 1, by omega, by go_num, R.out⟩
      case measure => simp [intOf]; omega
    · have e : A.size = k := by omega
      subst e
      have fin := own_reads_at (k := .i8) (zs := i8s A A.size) ho (i8s_length _ _) (fun z hz => by obtain ⟨y, _, rfl⟩ := List.mem_map.1 hz; exact wf_i8 _) (fun j hj => by rw [hcs j hj, i8s_at _ _ _ hj])
      clear hcs ho
      go_wp2
      go_ret
      exact ⟨w3, _, _, rfl, p3, hbr, fin, (fun x hx => by obtain rfl := Option.some.inj hx; exact Nat.le_refl _), Nat.le_refl _, _, rfl⟩

/-- what Weights answers, what is left behind it, and the error -/
def wtE (s : ByteArray) (e n : Int) : Int := if twoE s e ≠ 0 then twoE s e else if twoV s e ≠ n then 21 else if ((twoS s e).size : Int) < n then 22 else 0
def wtS (s : ByteArray) (e n : Int) : ByteArray := if wtE s e n = 0 then (twoS s e).extract n.toNat (twoS s e).size else twoS s e
def wtV (s : ByteArray) (e n : Int) : List Int := if wtE s e n = 0 then i8s (twoS s e) n.toNat else []

theorem twoV_bounds (s : ByteArray) (e : Int) : 0 ≤ twoV s e ∧ twoV s e ≤ 65535 := by
  have := byteZ_lt s 0
  have := byteZ_lt s 1
  unfold twoV
  split <;> omega

theorem i8s_extract (s : ByteArray) (n : Nat) (hn : n ≤ s.size) : i8s (s.extract 0 n) n = i8s s n := by
  unfold i8s
  apply List.map_congr_left
  intro j hj
  rw [byteZ_extract s n j hn (by simpa using hj)]

theorem only_then {b : Nat} {w w3 w' : World} (h : Only b w w3) (k : Below w3.heap.size w3 w') : Only b w w' := h.trans (Only.of_below k)

theorem weights_reader (h : Rd 93 w b s e) (n : Int) : Calls Try.prog 63 #[.pointer (some ⟨b, 0, none⟩), .int .i64 n] w fun r w' =>
    (∃ a m c, r = .returned (.slice a m c) ∧ Reads .i8 w' a m (wtV s e n) ∧ (∀ x, a = some x → w.heap.size ≤ x.block) ∧ m ≤ c ∧ ∃ x, a = some x) ∧ Rd 93 w' b (wtS s e n) (wtE s e n) ∧ Only b w w' := by
  have hE : wtE s e n = if twoE s e ≠ 0 then twoE s e else if twoV s e ≠ n then 21 else if ((twoS s e).size : Int) < n then 22 else 0 := rfl
  have hS : wtS s e n = if wtE s e n = 0 then (twoS s e).extract n.toNat (twoS s e).size else twoS s e := rfl
  have hV : wtV s e n = if wtE s e n = 0 then i8s (twoS s e) n.toNat else [] := rfl
  have c19 := two_reader h
  have bV := twoV_bounds s e
  obtain ⟨V, eV⟩ : ∃ V, twoV s e = V := ⟨_, rfl⟩
  obtain ⟨S, eS⟩ : ∃ S, twoS s e = S := ⟨_, rfl⟩
  obtain ⟨E, eE⟩ : ∃ E, twoE s e = E := ⟨_, rfl⟩
  rw [eV, eS, eE] at c19 hE
  rw [eV] at bV
  rw [eS] at hS hV
  by_cases h1 : E = 0
  · subst h1
    by_cases h2 : V = n
    · subst h2
      by_cases h3 : (S.size : Int) < V
      · have eq : wtE s e V = 22 := by rw [hE]; simp [h3]
        rw [eq, if_neg (by decide)] at hS hV
        rw [eq, hS, hV]
        refine (weights_same V V ⟨#[]⟩ (fun w' => Rd 93 w' b S 0 ∧ Only b w w') (fun w' => Rd 93 w' b S 22 ∧ Only b w w') (by simp) (by decide) c19 (fun w1 ⟨r1, o1⟩ => (take_few r1 V h3).mono fun r w' ⟨hr, hw⟩ => ⟨⟨_, hr⟩, hw ▸ r1.set1 22, o1.trans (hw ▸ Only.set _ _ _ _)⟩)).mono ?_
        rintro r w' ⟨w3, a, c, hr, ⟨r3, o3⟩, hb, hre, hbk, hcp, hsm⟩
        exact ⟨⟨a, _, c, hr, hre, (fun x hx => Nat.le_trans o3.size (hbk x hx)), hcp, hsm⟩, r3.kept hb, only_then o3 hb⟩
      · have eq : wtE s e V = 0 := by rw [hE]; simp [h3]
        rw [eq, if_pos rfl] at hS hV
        rw [eq, hS, hV]
        obtain ⟨k, rfl⟩ : ∃ k : Nat, V = k := ⟨V.toNat, by omega⟩
        have hk : k ≤ S.size := by omega
        have hsz : (S.extract 0 k).size = k := by rw [ByteArray.size_extract]; omega
        refine (weights_same k k (S.extract 0 k) (fun w' => Rd 93 w' b S 0 ∧ Only b w w') (fun w' => Rd 93 w' b (S.extract k S.size) 0 ∧ Only b w w') (by simp) (by rw [hsz]; omega) c19 (fun w1 ⟨r1, o1⟩ => (take_ok r1 k hk).mono fun r w' ⟨hr, hw⟩ => ⟨⟨_, hr⟩, hw ▸ r1.set0 _, o1.trans (hw ▸ Only.set _ _ _ _)⟩)).mono ?_
        rintro r w' ⟨w3, a, c, hr, ⟨r3, o3⟩, hb, hre, hbk, hcp, hsm⟩
        rw [hsz, i8s_extract S k hk] at hre
        exact ⟨⟨a, _, c, hr, by rw [hsz]; exact hre, (fun x hx => Nat.le_trans o3.size (hbk x hx)), hcp, hsm⟩, r3.kept hb, only_then o3 hb⟩
    · have eq : wtE s e n = 21 := by rw [hE]; simp [h2]
      rw [eq, if_neg (by decide)] at hS hV
      rw [eq, hS, hV]
      refine (weights_other n V ⟨#[]⟩ (fun w' => Rd 93 w' b S 0 ∧ Only b w w') (fun w' => Rd 93 w' b S 21 ∧ Only b w w') (fun w' => Rd 93 w' b S 21 ∧ Only b w w') (by simpa using h2) (by decide) c19
        (fun w1 ⟨r1, o1⟩ => (fail_no r1 21).mono fun r w' ⟨hr, hw⟩ => ⟨hr, hw ▸ r1.set1 21, o1.trans (hw ▸ Only.set _ _ _ _)⟩)
        (fun w1 ⟨r1, o1⟩ => (take_bad r1 (by decide) n).mono fun r w' ⟨hr, hw⟩ => ⟨⟨_, hr⟩, hw ▸ r1, hw ▸ o1⟩)).mono ?_
      rintro r w' ⟨w3, a, c, hr, ⟨r3, o3⟩, hb, hre, hbk, hcp, hsm⟩
      exact ⟨⟨a, _, c, hr, hre, (fun x hx => Nat.le_trans o3.size (hbk x hx)), hcp, hsm⟩, r3.kept hb, only_then o3 hb⟩
  · have eq : wtE s e n = E := by rw [hE, if_pos h1]
    rw [eq, if_neg h1] at hS hV
    rw [eq, hS, hV]
    by_cases h2 : V = n
    · refine (weights_same n V ⟨#[]⟩ (fun w' => Rd 93 w' b S E ∧ Only b w w') (fun w' => Rd 93 w' b S E ∧ Only b w w') (by simpa using h2) (by decide) c19 (fun w1 ⟨r1, o1⟩ => (take_bad r1 h1 n).mono fun r w' ⟨hr, hw⟩ => ⟨⟨_, hr⟩, hw ▸ r1, hw ▸ o1⟩)).mono ?_
      rintro r w' ⟨w3, a, c, hr, ⟨r3, o3⟩, hb, hre, hbk, hcp, hsm⟩
      exact ⟨⟨a, _, c, hr, hre, (fun x hx => Nat.le_trans o3.size (hbk x hx)), hcp, hsm⟩, r3.kept hb, only_then o3 hb⟩
    · refine (weights_other n V ⟨#[]⟩ (fun w' => Rd 93 w' b S E ∧ Only b w w') (fun w' => Rd 93 w' b S E ∧ Only b w w') (fun w' => Rd 93 w' b S E ∧ Only b w w') (by simpa using h2) (by decide) c19
        (fun w1 ⟨r1, o1⟩ => (fail_yes r1 h1 21).mono fun r w' ⟨hr, hw⟩ => ⟨hr, hw ▸ r1, hw ▸ o1⟩)
        (fun w1 ⟨r1, o1⟩ => (take_bad r1 h1 n).mono fun r w' ⟨hr, hw⟩ => ⟨⟨_, hr⟩, hw ▸ r1, hw ▸ o1⟩)).mono ?_
      rintro r w' ⟨w3, a, c, hr, ⟨r3, o3⟩, hb, hre, hbk, hcp, hsm⟩
      exact ⟨⟨a, _, c, hr, hre, (fun x hx => Nat.le_trans o3.size (hbk x hx)), hcp, hsm⟩, r3.kept hb, only_then o3 hb⟩

theorem twoS_size (s : ByteArray) (e : Int) : (twoS s e).size ≤ s.size := by
  unfold twoS
  split
  · exact Nat.le_refl _
  · rw [ByteArray.size_extract]; omega
theorem wtS_size (s : ByteArray) (e n : Int) : (wtS s e n).size ≤ s.size := by
  have := twoS_size s e
  unfold wtS
  split
  · rw [ByteArray.size_extract]; omega
  · exact this
end

/- What the document's reader's Weights give back, and whether two rows of weights are the same: contracts of the calls. -/
section
open Go.ChangeShapes Go.WideShapes Go.ChangeAt Go.RowKit
set_option linter.unusedVariables false

theorem same_call (a0 : Option Addr) (n0 c0 : Nat) (zs : List Int) (a1 : Option Addr) (n1 c1 : Nat) (w : World)
    (h0 : Reads .i8 w a0 n0 zs) (h1 : Reads .i8 w a1 n1 zs) :
    Calls Try.prog 18 #[.slice a0 n0 c0, .slice a1 n1 c1] w fun e w' => e = .returned (.bool true) ∧ ∃ m, w' = w.drewN m := by
  obtain rfl : n0 = n1 := h0.len.symm.trans h1.len
  have hm := h0.max
  go_enter Try.func18, Try.ntmps18
  go_wp2
  go_loopw [5] (fun i wr => ∃ k : Nat, k ≤ n0 ∧ i = .int .i64 k ∧ ∃ m, wr = w.drewN m) (fun i _ => n0 - (intOf i).toNat)
  case atStart => exact ⟨0, Nat.zero_le _, rfl, 0, rfl⟩
  case round =>
    obtain ⟨k, hk, rfl, m, hw⟩ := hrel
    by_cases hlt : k < n0
    · obtain ⟨x, rfl⟩ := h0.some_ (by omega)
      obtain ⟨y, rfl⟩ := h1.some_ (by omega)
      have cx : wr.cell? (x.add k) = some (.int .i8 (zs.getD k 0)) := by rw [hw]; exact h0.cell x rfl k hlt
      have cy : wr.cell? (y.add k) = some (.int .i8 (zs.getD k 0)) := by rw [hw]; exact h1.cell y rfl k hlt
      have Hw : Hid (wr = w.drewN m) := hw
      clear hw
      obtain ⟨Z, eZ⟩ : ∃ Z, zs.getD k 0 = Z := ⟨_, rfl⟩
      rw [eZ] at cx cy
      clear eZ
      go_wp2
      go_quiet (fail)
      go_wp2
      go_roundw
      case rel => exact ⟨k + 1, by omega, by go_num, _, by rw [Hw.out, World.drewN_drewN]⟩
      case measure => simp [intOf]; omega
    · have e : k = n0 := by omega
      subst e
      subst hw
      go_wp2
      go_ret
      exact ⟨rfl, _, rfl⟩

variable {t : TypeId} {w w' : World} {b : Nat} {s : ByteArray} {e : Int}

theorem refWts_bad (n V E : Int) (S : ByteArray) (hE : E ≠ 0)
    (c20 : Calls Try.prog 51 #[.pointer (some ⟨b, 0, none⟩)] w fun r w' => r = .returned (.int .i64 V) ∧ Rd 75 w' b S E ∧ Only b w w') :
    Calls Try.prog 52 #[.pointer (some ⟨b, 0, none⟩), .int .i64 n] w fun r w' => r = .returned (.slice none 0 0) ∧ Rd 75 w' b S E ∧ Only b w w' := by
  have e1 : (E != 0) = true := by simpa using hE
  go_enter Try.func52, Try.ntmps52
  go_wp2_with (go_at_call 51; refine c20.mono ?_; rintro e w1 ⟨rfl, r1, o1⟩; have c1 := r1.c1)
  go_ret
  exact ⟨rfl, r1, o1⟩

theorem refWts_shape (n V : Int) (S : ByteArray) (hv : V ≠ n)
    (c20 : Calls Try.prog 51 #[.pointer (some ⟨b, 0, none⟩)] w fun r w' => r = .returned (.int .i64 V) ∧ Rd 75 w' b S 0 ∧ Only b w w') :
    Calls Try.prog 52 #[.pointer (some ⟨b, 0, none⟩), .int .i64 n] w fun r w' => r = .returned (.slice none 0 0) ∧ Rd 75 w' b S 21 ∧ Only b w w' := by
  have e1 : (V != n) = true := by simpa using hv
  go_enter Try.func52, Try.ntmps52
  go_wp2_with (go_at_call 51; refine c20.mono ?_; rintro e w1 ⟨rfl, r1, o1⟩; have c1 := r1.c1; have f1 := r1.f1)
  go_ret
  exact ⟨rfl, r1.set1 21, o1.trans (Only.set _ _ _ _)⟩

theorem refWts_short (V : Int) (S : ByteArray) (hs : (S.size : Int) < V)
    (c20 : Calls Try.prog 51 #[.pointer (some ⟨b, 0, none⟩)] w fun r w' => r = .returned (.int .i64 V) ∧ Rd 75 w' b S 0 ∧ Only b w w') :
    Calls Try.prog 52 #[.pointer (some ⟨b, 0, none⟩), .int .i64 V] w fun r w' => r = .returned (.slice none 0 0) ∧ Rd 75 w' b S 22 ∧ Only b w w' := by
  go_enter Try.func52, Try.ntmps52
  go_wp2_with (go_at_call 51; refine c20.mono ?_; rintro e w1 ⟨rfl, r1, o1⟩; have c0 := r1.c0; have c1 := r1.c1; have f1 := r1.f1)
  go_ret
  exact ⟨rfl, r1.set1 22, o1.trans (Only.set _ _ _ _)⟩

theorem reads_below_set {k : IntKind} {wr : World} {a : Option Addr} {n b o : Nat} {zs : List Int} {v : Value} (h : Reads k wr a n zs) (hb : ∀ x, a = some x → b ≠ x.block) : Reads k (wr.setCell ⟨b, o, none⟩ v) a n zs :=
  h.other (Only.set b o wr v) (fun x hx _ e => hb x hx e.symm)

theorem refWts_ok (n : Nat) (S : ByteArray) (hn : n ≤ S.size) (hm : n ≤ 65535)
    (c20 : Calls Try.prog 51 #[.pointer (some ⟨b, 0, none⟩)] w fun r w' => r = .returned (.int .i64 (n : Int)) ∧ Rd 75 w' b S 0 ∧ Only b w w') :
    Calls Try.prog 52 #[.pointer (some ⟨b, 0, none⟩), .int .i64 (n : Int)] w fun r w' => (∃ a c, r = .returned (.slice a n c) ∧ Reads .i8 w' a n (i8s S n) ∧ n ≤ c ∧ (a = none → c = 0)) ∧ Rd 75 w' b (S.extract n S.size) 0 ∧ Only b w w' := by
  obtain ⟨i0, hi, hz0, hz1, hz2⟩ := info_parts info46
  have hn' : decide ((S.size : Int) < (n : Int)) = false := by simp; omega
  have hn0 : decide (S.size < n) = false := by simp; omega
  have hn'' : (n : Int) ≤ (S.size : Int) := by omega
  obtain ⟨F, eF⟩ : ∃ F : Nat → Int, F = fun j => i8 (byteZ S j) := ⟨_, rfl⟩
  obtain ⟨B, eB⟩ : ∃ B, S.extract n S.size = B := ⟨_, rfl⟩
  rw [eB]
  go_enter Try.func52, Try.ntmps52
  go_wp2_with (go_at_call 51; refine c20.mono ?_; rintro e w1 ⟨rfl, r1, o1⟩; have c0 := r1.c0; have c1 := r1.c1)
  go_loopw [6, 7] (fun v i wr => ∃ k : Nat, k ≤ n ∧ i = .int .i64 k ∧ Below w1.heap.size w1 wr ∧ wr.ownsRow w1.heap.size 46 1 v k (gath F .i8 k)) (fun _ i _ => n - (intOf i).toNat)
  case atStart => exact ⟨0, Nat.zero_le _, rfl, Below.refl _ _, World.ownsRow_nil _ _ _ _⟩
  case round =>
    clear c0 c1
    obtain ⟨k, hk, rfl, hbr, ho⟩ := hrel
    by_cases hlt : k < n
    · have hr := r1.kept hbr
      have c0 := hr.c0
      have hsz := hbr.size
      have eY := byteZ_at S k (by omega)
      have lB := byteZ_lt S k
      obtain ⟨X, eX⟩ : ∃ X, byteZ S k = X := ⟨_, rfl⟩
      have Ez : Hid (i8 X = F k) := by rw [eF, ← eX]; exact rfl
      rw [eX] at eY lB
      have hw8 := wrap_i8 (X : Int)
      have hlt' : k < S.size := by omega
      clear eF eX hr
      go_wp2_with (first
        | (at_builtin; refine wpList_append_own _ rfl (.tmp 36) (.tmp 44) 26 rfl w1.heap.size 46 i0 (.int .i8 0) 1 1 Try.underlying26 hi hz0 hz1 hz2 rfl (by decide) _ _ _ rfl (ho.alloc _) ⟨_, 0, none⟩ 1 1 [.int .i8 (i8 X)] rfl rfl (one_new _ _ _) (one_oneCell _ _) (by unfold maxLen; omega) (by omega) (by simp; omega) ?_; intro v' w2 ho' hg _))
      go_roundw
      case rel => exact ⟨k + 1, by omega, by go_num, append_step hsz Ez.out hbr ho ho' hg⟩
      case measure => simp [intOf]; omega
    · have e : n = k := by omega
      subst e
      have fin := own_reads (k := .i8) (zs := i8s S n) ho (i8s_length _ _) (fun z hz => by obtain ⟨y, _, rfl⟩ := List.mem_map.1 hz; exact wf_i8 _) (fun j hj => by rw [gath_at _ _ _ _ hj, eF, i8s_at _ _ _ hj])
      obtain ⟨a, c, rfl, hre⟩ := fin
      have cap : Hid (n ≤ c ∧ (a = none → c = 0)) := by
        rcases ho.2 with ⟨h, h'⟩ | ⟨g, cap, cur, h, _, _, hn, _⟩
        · simp only [Value.slice.injEq] at h
          exact ⟨by omega, fun _ => h.2.2⟩
        · simp only [Value.slice.injEq] at h
          exact ⟨by omega, fun e => by rw [e] at h; cases h.1⟩
      have far : ∀ x, a = some x → b ≠ x.block := fun x hx he => by
        have := (ho.lt x.block (by rw [hx]; rfl)).1
        have := r1.lt
        omega
      have hr := r1.kept hbr
      have c0 := hr.c0
      have f0 := hr.f0
      have R : Hid (Reads .i8 (wr.setCell ⟨b, 0, none⟩ (.string B)) a n (i8s S n) ∧ Rd 75 (wr.setCell ⟨b, 0, none⟩ (.string B)) b B 0 ∧ Only b w (wr.setCell ⟨b, 0, none⟩ (.string B))) :=
        ⟨reads_below_set hre far, hr.set0 B, (only_then o1 hbr).trans (Only.set _ _ _ _)⟩
      clear eF ho hre hr far
      go_wp2
      go_ret
      exact ⟨⟨_, _, rfl, R.out.1, cap.out⟩, R.out.2⟩

theorem refWeights_reader (h : Rd 75 w b s e) (n : Int) (hm : s.size ≤ 9223372036854775807) : Calls Try.prog 52 #[.pointer (some ⟨b, 0, none⟩), .int .i64 n] w fun r w' =>
    (∃ a m c, r = .returned (.slice a m c) ∧ Reads .i8 w' a m (wtV s e n) ∧ m ≤ c ∧ (a = none → c = 0)) ∧ Rd 75 w' b (wtS s e n) (wtE s e n) ∧ Only b w w' := by
  have hE : wtE s e n = if twoE s e ≠ 0 then twoE s e else if twoV s e ≠ n then 21 else if ((twoS s e).size : Int) < n then 22 else 0 := rfl
  have hS : wtS s e n = if wtE s e n = 0 then (twoS s e).extract n.toNat (twoS s e).size else twoS s e := rfl
  have hV : wtV s e n = if wtE s e n = 0 then i8s (twoS s e) n.toNat else [] := rfl
  have c20 := refTwo_reader h hm
  have bV := twoV_bounds s e
  obtain ⟨V, eV⟩ : ∃ V, twoV s e = V := ⟨_, rfl⟩
  obtain ⟨S, eS⟩ : ∃ S, twoS s e = S := ⟨_, rfl⟩
  obtain ⟨E, eE⟩ : ∃ E, twoE s e = E := ⟨_, rfl⟩
  rw [eV, eS, eE] at c20 hE
  rw [eV] at bV
  rw [eS] at hS hV
  by_cases h1 : E = 0
  · subst h1
    by_cases h2 : V = n
    · subst h2
      by_cases h3 : (S.size : Int) < V
      · have eq : wtE s e V = 22 := by rw [hE]; simp [h3]
        rw [eq, if_neg (by decide)] at hS hV
        rw [eq, hS, hV]
        exact (refWts_short V S h3 c20).mono fun r w' ⟨hr, r3, o3⟩ => ⟨⟨_, _, _, hr, Reads.nil _ _, Nat.le_refl _, fun _ => rfl⟩, r3, o3⟩
      · have eq : wtE s e V = 0 := by rw [hE]; simp [h3]
        rw [eq, if_pos rfl] at hS hV
        rw [eq, hS, hV]
        obtain ⟨k, rfl⟩ : ∃ k : Nat, V = k := ⟨V.toNat, by omega⟩
        exact (refWts_ok k S (by omega) (by omega) c20).mono fun r w' ⟨⟨a, c, hr, hre, hcp⟩, r3, o3⟩ => ⟨⟨_, _, _, hr, hre, hcp⟩, r3, o3⟩
    · have eq : wtE s e n = 21 := by rw [hE]; simp [h2]
      rw [eq, if_neg (by decide)] at hS hV
      rw [eq, hS, hV]
      exact (refWts_shape n V S h2 c20).mono fun r w' ⟨hr, r3, o3⟩ => ⟨⟨_, _, _, hr, Reads.nil _ _, Nat.le_refl _, fun _ => rfl⟩, r3, o3⟩
  · have eq : wtE s e n = E := by rw [hE, if_pos h1]
    rw [eq, if_neg h1] at hS hV
    rw [eq, hS, hV]
    exact (refWts_bad n V E S h1 c20).mono fun r w' ⟨hr, r3, o3⟩ => ⟨⟨_, _, _, hr, Reads.nil _ _, Nat.le_refl _, fun _ => rfl⟩, r3, o3⟩
end

/- Numbers and weights that are written one behind the other are read again: of texts alone. -/
section
set_option linter.unusedVariables false

/-- the first k numbers written, each with the text C behind it -/
def txtTo (zs : List Int) (C : ByteArray) : Nat → ByteArray
  | 0 => ⟨#[]⟩
  | k + 1 => txtTo zs C k ++ two (zs.getD k 0) ++ C
/-- those from k on, so many -/
def restTo (zs : List Int) (C : ByteArray) : Nat → Nat → ByteArray
  | _, 0 => ⟨#[]⟩
  | k, m + 1 => two (zs.getD k 0) ++ (C ++ restTo zs C (k + 1) m)

theorem empty_append (a : ByteArray) : (⟨#[]⟩ : ByteArray) ++ a = a := by
  apply ByteArray.ext
  simp [ByteArray.data_append]
theorem append_empty (a : ByteArray) : a ++ (⟨#[]⟩ : ByteArray) = a := by
  apply ByteArray.ext
  simp [ByteArray.data_append]

theorem txt_rest (zs : List Int) (C : ByteArray) : ∀ m k, txtTo zs C k ++ restTo zs C k m = txtTo zs C (k + m)
  | 0, k => append_empty _
  | m + 1, k => by
    have := txt_rest zs C m (k + 1)
    rw [show k + 1 + m = k + (m + 1) by omega] at this
    rw [← this]
    simp only [restTo, txtTo, ByteArray.append_assoc]
theorem txt_all (zs : List Int) (C : ByteArray) (m : Nat) : txtTo zs C m = restTo zs C 0 m := by
  have := txt_rest zs C m 0
  rw [show 0 + m = m by omega] at this
  rw [← this]
  exact empty_append _
theorem txt_size (zs : List Int) (C : ByteArray) : ∀ k, (txtTo zs C k).size = k * (2 + C.size)
  | 0 => by simp only [txtTo, Nat.zero_mul]; rfl
  | k + 1 => by
    simp only [txtTo, ByteArray.size_append, two_size, txt_size zs C k]
    rw [Nat.add_mul]
    omega

theorem two_front (n : Int) (t : ByteArray) : twoV (two n ++ t) 0 = n % 65536 ∧ twoS (two n ++ t) 0 = t ∧ twoE (two n ++ t) 0 = 0 := by
  have hs : (two n ++ t).size = 2 + t.size := by rw [ByteArray.size_append, two_size]
  have b0 := two_low n
  have b1 := two_high n
  refine ⟨?_, ?_, ?_⟩
  · unfold twoV
    rw [if_neg (by omega), byteZ_left _ _ _ (by rw [two_size]; omega), byteZ_left _ _ _ (by rw [two_size]; omega), b0, b1]
    omega
  · unfold twoS
    rw [if_neg (by omega)]
    apply text_ext
    · rw [ByteArray.size_extract]; omega
    · intro i hi
      rw [ByteArray.size_extract] at hi
      rw [byteZ_part _ _ _ _ (by omega) (by omega)]
      have := byteZ_right (two n) t i (by omega)
      rwa [two_size] at this
  · unfold twoE
    rw [if_neg (by omega), if_neg (by omega)]

theorem i8_byte {z : Int} (h0 : -128 ≤ z) (h1 : z ≤ 127) : i8 (z % 256) = z := by unfold i8; omega

theorem wts_front (zs : List Int) (t : ByteArray) (hl : zs.length ≤ 65535) (hz : ∀ z ∈ zs, (Lit.int .i8 z).wf = true) :
    wtV (wtsS zs ++ t) 0 zs.length = zs ∧ wtS (wtsS zs ++ t) 0 zs.length = t ∧ wtE (wtsS zs ++ t) 0 zs.length = 0 := by
  have hB := wtsB_size zs
  have e : wtsS zs ++ t = two (zs.length : Nat) ++ (wtsB zs ++ t) := by
    unfold wtsS
    rw [show min zs.length 65535 = zs.length by omega, ByteArray.append_assoc]
  obtain ⟨v, s, er⟩ := two_front (zs.length : Nat) (wtsB zs ++ t)
  have hsz : (wtsB zs ++ t).size = zs.length + t.size := by rw [ByteArray.size_append, hB]; omega
  have h0 : wtE (wtsS zs ++ t) 0 zs.length = 0 := by
    rw [e]
    unfold wtE
    rw [er, if_neg (by omega), v, if_neg (by omega), s, if_neg (by rw [hsz]; omega)]
  refine ⟨?_, ?_, h0⟩
  · unfold wtV
    rw [h0, if_pos rfl, e, s]
    apply List.ext_getElem
    · rw [i8s_length]; omega
    · intro i h1 h2
      rw [i8s_length] at h1
      have hb : (byteZ (wtsB zs ++ t) i : Int) = zs[i] % 256 := by
        rw [byteZ_left _ _ _ (by rw [hB]; omega)]
        have hm : ((zs.take 65535).map (· % 256)).getD i 0 = zs[i] % 256 := by simp [List.getD, h2, show i < 65535 by omega]
        have := byteZ_of ((zs.take 65535).map (· % 256)) i (by simp; omega) (by rw [hm]; omega) (by rw [hm]; omega)
        rw [hm] at this
        exact this
      have w := hz zs[i] (List.getElem_mem _)
      have w' : -128 ≤ zs[i] ∧ zs[i] ≤ 127 := by simpa [Lit.wf, IntKind.min, IntKind.max, IntKind.signed, IntKind.bits] using w
      simp only [i8s, List.getElem_map, List.getElem_range]
      rw [hb, i8_byte w'.1 w'.2]
  · unfold wtS
    rw [h0, if_pos rfl, e, s]
    apply text_ext
    · rw [ByteArray.size_extract]; omega
    · intro i hi
      rw [ByteArray.size_extract] at hi
      rw [byteZ_part _ _ _ _ (by omega) (by omega)]
      have := byteZ_right (wtsB zs) t i (by omega)
      rw [hB, show min zs.length 65535 = zs.length by omega] at this
      simpa using this
end

end Go.Proofs.Ytjbeloljbjfibaa

/- Rows beside the shelf while it yields. -/
import Derived.Test.YtfggkkhehaafcaaRows
import Derived.Test.YtfggkkhehaafcaaPages
import Derived.Test.YtfggkkhehaafcaaView
import Derived.Test.YtfggkkhehaafcaaOwn
import Derived.Test.YtfggkkhehaafcaaReadsP
import Derived.Test.YtfggkkhehaafcaaReadsQ
import Derived.Test.YtfggkkhehaafcaaLeast
import Derived.Test.YtfggkkhehaafcaaLays
import Derived.Test.YtfggkkhehaafcaaNews
import Derived.Test.YtfggkkhehaafcaaGoods
import Derived.Test.YtfggkkhehaafcaaCount
import Derived.Test.YtfggkkhehaafcaaPlain
import Derived.Test.YtfggkkhehaafcaaLies
import Derived.Test.YtfggkkhehaafcaaFetch
import Derived.Test.YtfggkkhehaafcaaMapV
import Derived.Test.YtfggkkhehaafcaaShPlain
import Derived.Test.YtfggkkhehaafcaaShActs
import Derived.Test.YtfggkkhehaafcaaShAt
import Derived.Test.YtfggkkhehaafcaaShTurn
import Derived.Test.YtfggkkhehaafcaaShIn
import Derived.Test.YtfggkkhehaafcaaWorksK
import Derived.Test.YtfggkkhehaafcaaOldK
import Derived.Test.YtfggkkhehaafcaaOldM
import Derived.Test.YtfggkkhehaafcaaMineK
import Derived.Test.YtfggkkhehaafcaaYieldK
import Derived.WalkKit
import Derived.ProofKit
import Derived.OpenShut
import Derived.Below
import Derived.WalkLawsBesides
import Derived.Deep.QuietTactic
import Derived.BigQuiet
import Derived.Maps.OwnSet
namespace Go.Proofs.Ytfggkkhehaafcaa
open Go.ChangeShapes Go.WideShapes Go.ChangeAt Go.RowKit
set_option linter.unusedVariables false
set_option linter.unusedSimpArgs false

theorem lit6 (w : World) : ReadT (w.alloc (.cells (N6.map Value.string).toArray 9)) (some ⟨w.heap.size, 0, none⟩) 6 N6 ∧ Row 9 (w.alloc (.cells (N6.map Value.string).toArray 9)) w.heap.size 6 := by
  have hn := heap_alloc_new w (.cells (N6.map Value.string).toArray 9)
  refine ⟨⟨rfl, by decide, fun _ => ⟨_, rfl⟩, fun x hx i hi => ?_⟩, ⟨_, hn, rfl⟩⟩
  obtain rfl := Option.some.inj hx
  rw [add_off]
  unfold World.cell?
  rw [hn]
  simp only [List.getElem?_toArray]
  exact texts_at N6 i hi

/-- the weights that are put at a place -/
def sizeM (z0 : List Int) (i : Nat) : Nat := (IntKind.u64.wrap (z0.getD i 0) % 500).toNat
def wtOf (z0 : List Int) (i : Nat) : List Int := (i : Int) :: List.replicate (sizeM z0 i) 0
theorem sizeM_lt (z0 : List Int) (i : Nat) : sizeM z0 i < 500 ∧ (IntKind.u64.wrap (z0.getD i 0)).tmod 500 = (sizeM z0 i : Int) := by
  obtain ⟨M, hM, (m1 : (IntKind.u64.wrap (z0.getD i 0)).tmod 500 = (M : Int)), (m2 : IntKind.u64.wrap (z0.getD i 0) % 500 = (M : Int))⟩ := restN (z0.getD i 0) 500 (by decide)
  unfold sizeM
  rw [m2]
  exact ⟨hM, m1⟩
theorem wtOf_len (z0 : List Int) (i : Nat) : (wtOf z0 i).length = sizeM z0 i + 1 := by simp [wtOf]
theorem wtOf_wf (z0 : List Int) (i : Nat) (hi : i < 6) : ∀ z ∈ wtOf z0 i, (Lit.int .i8 z).wf = true := fun z hz => by
  rcases List.mem_cons.1 hz with rfl | hz
  · exact wf_i8 (by omega) (by omega)
  · rw [List.eq_of_mem_replicate hz]
    decide
theorem wtOf_at (z0 : List Int) (i j : Nat) (hj : j ≠ 0) : (wtOf z0 i).getD j 0 = 0 := by
  unfold wtOf
  cases j with
  | zero => exact absurd rfl hj
  | succ j =>
    simp only [List.getD, List.getElem?_cons_succ, List.getElem?_replicate]
    split <;> rfl

def zeroB (q : Nat) : Obj := .cells (madeCells #[.int .i8 0] q) 59
theorem madeB (q : Nat) (hq : q ≤ 1000) (w : World) : (Instr.makeSlice 37 (.int .i64 (q : Int)) (.int .i64 (q : Int))).run Try.prog w = .ok (.slice (some ⟨w.heap.size, 0, none⟩) q q) (w.alloc (zeroB q)) :=
  run_make_row' 37 59 (.int .i8 0) 1 Try.underlying37 info59 rfl .i64 .i64 q (by omega) (by omega) w
theorem zeroB_at (w : World) (q j : Nat) (hj : j < q) : (w.alloc (zeroB q)).cell? ⟨w.heap.size, j, none⟩ = some (.int .i8 0) := by
  have e : (w.alloc (zeroB q)).heap[w.heap.size]? = some (zeroB q) := heap_alloc_new w (zeroB q)
  unfold World.cell?
  rw [e]
  simp [zeroB, madeCells, hj, Nat.mod_one]
theorem zeroB_row (w : World) (q : Nat) : Row 59 (w.alloc (zeroB q)) w.heap.size q := ⟨_, heap_alloc_new w (zeroB q), by rw [size_madeCells]⟩
theorem wt_reads (w : World) (z0 : List Int) (i q : Nat) (hi : i < 6) (hq : q = sizeM z0 i + 1) (hq' : q ≤ 1000) : Reads .i8 ((w.alloc (zeroB q)).setCell ⟨w.heap.size, 0, none⟩ (.int .i8 (i : Int))) (some ⟨w.heap.size, 0, none⟩) q (wtOf z0 i) := by
  refine Reads.of_row (by rw [wtOf_len, hq]) (by omega) (wtOf_wf z0 i hi) fun j hj => ?_
  rw [add_off]
  by_cases c : j = 0
  · subst c
    exact World.cell?_setCell_same _ _ _ (zeroB_at w q 0 (by omega))
  · rw [World.cell?_setCell_other _ _ _ _ (by simp <;> omega), zeroB_at w q j hj, wtOf_at z0 i j c]

/-- a text laid behind a row of the law's own leaves the shelf as it was -/
theorem Sf.append9 {B : Nat} {w w' : World} {x mb b g : Nat} {a oa : Option Addr} {s : Pl} {L : List It} {cap : Nat} (h : Sf B w x mb b g a s L cap) (o : OffS B (fun _ => false) (blkOf oa) w w') (ap : Ap9 w oa a) : Sf B w' x mb b g a s L cap := by
  refine h.keep (fun i t hi ht hT => o.block i hi (.inr ⟨fun hb => ?_, fun _ _ => rfl⟩)) (o.block mb h.mapLt.2.1 (.inr ⟨fun hb => ?_, fun _ _ => rfl⟩)) (fun i hi => o.block i (h.ordLt hi).2.1 (.inr ⟨fun hb => (ap i hb).1 hi, fun _ _ => rfl⟩))
  · obtain ⟨_, m, r⟩ := ap i hb
    rw [r.type] at ht
    obtain rfl := Option.some.inj ht
    cases hT
  · obtain ⟨_, m, r⟩ := ap mb hb
    have := h.mapLt.2.2
    rw [r.type] at this
    cases this

/-- the shelf, the names' row, and the row of those that are loose -/
structure YP (B : Nat) (w : World) (x mb b g : Nat) (Y : Addr) (NN : List ByteArray) (oa : Option Addr) (ol oc : Nat) (ord : List ByteArray) (a : Option Addr) (s : Pl) (L : List It) (cap : Nat) (wr : World) : Prop where
  sf : Sf B wr x mb b g a s L cap
  row : RowT B wr oa ol oc ord
  ap : Ap9 wr oa a
  apY : Ap9 wr (some Y) a
  nm : ReadT wr (some Y) NN.length NN
  apart : ∀ i, blkOf oa i → i ≠ Y.block
  bel : Below B w wr
theorem YP.below {B : Nat} {w : World} {x mb b g : Nat} {Y : Addr} {NN : List ByteArray} {oa : Option Addr} {ol oc : Nat} {ord : List ByteArray} {a : Option Addr} {s : Pl} {L : List It} {cap : Nat} {wr W : World} (h : YP B w x mb b g Y NN oa ol oc ord a s L cap wr) (hb : Below wr.heap.size wr W) : YP B w x mb b g Y NN oa ol oc ord a s L cap W :=
  ⟨h.sf.below hb, h.row.below hb, h.ap.below hb, h.apY.below hb, h.nm.below hb, h.apart, h.bel.trans (hb.mono h.sf.lt)⟩
theorem YP.step {B : Nat} {w : World} {x mb b g : Nat} {Y : Addr} {NN : List ByteArray} {oa : Option Addr} {ol oc : Nat} {ord : List ByteArray} {a a' : Option Addr} {s s' : Pl} {L L' : List It} {cap cap' : Nat} {wr W : World} (h : YP B w x mb b g Y NN oa ol oc ord a s L cap wr) (hs : Sf B W x mb b g a' s' L' cap') (o : OffS B TS (SS mb a) wr W) (ha : ∀ k, blkOf a' k → blkOf a k ∨ wr.heap.size ≤ k) : YP B w x mb b g Y NN oa ol oc ord a' s' L' cap' W := by
  obtain ⟨q1, q2⟩ := h.ap.kept h.sf o ha
  obtain ⟨q3, q4⟩ := h.apY.kept h.sf o ha
  exact ⟨hs, h.row.keep q2, q1, q3, h.nm.kept q4, h.apart, h.bel.trans (o.below h.sf.lt)⟩
theorem YP.app {B : Nat} {w : World} {x mb b g : Nat} {Y : Addr} {NN : List ByteArray} {oa : Option Addr} {ol oc : Nat} {ord : List ByteArray} {a : Option Addr} {s : Pl} {L : List It} {cap : Nat} {wr : World} (h : YP B w x mb b g Y NN oa ol oc ord a s L cap wr) (t : ByteArray) (hl : ol ≤ 1000) :
    ∃ oa' oc' W, (Builtin.append_ #[46, 46] 46 #[.slice oa ol oc, .slice (some ⟨wr.heap.size, 0, none⟩) 1 1]).run Try.prog (wr.alloc (.cells #[.string t] 9)) = .ok (.slice oa' (ol + 1) oc') W ∧ YP B w x mb b g Y NN oa' (ol + 1) oc' (ord ++ [t]) a s L cap W := by
  obtain ⟨oa', oc', W, hr, hrow, o, hb⟩ := run_append_text h.row t (by omega) h.sf.lt 46
  obtain ⟨_, mY, rY⟩ := h.apY Y.block ⟨Y, rfl, rfl⟩
  have kb : ∀ k, k < wr.heap.size → ¬ blkOf oa k → W.heap[k]? = wr.heap[k]? := fun k hk hn => o.block k hk (.inr ⟨hn, fun _ _ => rfl⟩)
  have eY : ∀ k, blkOf (some Y) k → W.heap[k]? = wr.heap[k]? := fun k hk => by
    obtain ⟨y, hy, rfl⟩ := hk
    obtain rfl := Option.some.inj hy
    exact kb _ rY.lt (fun hb => h.apart _ hb rfl)
  refine ⟨oa', oc', W, hr, ⟨h.sf.append9 o h.ap, hrow, fun k hk => ?_, fun k hk => ?_, h.nm.kept eY, fun k hk => ?_, h.bel.trans (o.below h.sf.lt)⟩⟩
  · obtain ⟨_, m, r⟩ := own_blk hrow.own hk
    refine ⟨fun ha => ?_, m, r⟩
    rcases hb k hk with e | e
    · exact (h.ap k e).1 ha
    · have := (h.sf.ordLt ha).2.1
      omega
  · obtain ⟨h1, m, r⟩ := h.apY k hk
    exact ⟨h1, m, r.of_block (eY k hk)⟩
  · rcases hb k hk with e | e
    · exact h.apart k e
    · have := rY.lt
      omega

/-- while they are put -/
structure YI1 (B : Nat) (w : World) (x mb b g : Nat) (Y : Addr) (wt : Nat → List Int) (k cap : Nat) (oa : Option Addr) (ol oc : Nat) (wr : World) : Prop where
  st : ∃ a s L ord, YP B w x mb b g Y N6 oa ol oc ord a s L cap wr ∧ Y1 wt k s L ord
/-- while they yield -/
structure YI2 (B : Nat) (w : World) (x mb b g : Nat) (Y : Addr) (wt : Nat → List Int) (k cap : Nat) (oa : Option Addr) (ol : Nat) (wr : World) : Prop where
  st : ∃ a s L ord, Sf B wr x mb b g a s L cap ∧ Y1 wt k s L ord ∧ ReadT wr oa ol ord ∧ Ap9 wr oa a ∧ Ap9 wr (some Y) a
  nm : ReadT wr (some Y) 6 N6
  bel : Below B w wr
theorem off1 (gb o : Nat) : (⟨gb, o, none⟩ : Addr).add 1 = ⟨gb, o + 1, none⟩ := by simp [Addr.add]
theorem off0 (gb o : Nat) : (⟨gb, o, none⟩ : Addr).add 0 = ⟨gb, o, none⟩ := by simp [Addr.add]
/-- one yields: what is told, and what stands behind it -/
theorem YI2.round {B : Nat} {w : World} {x mb b g : Nat} {Y : Addr} {wt : Nat → List Int} {k cap J gb o : Nat} {wr : World} (h : YI2 B w x mb b g Y wt k cap (some ⟨gb, o, none⟩) (J + 1) wr) (hc : cap ≤ 900) :
    ∃ (t : ByteArray) (N0 F0 A0 N1 F1 A1 : Int), F0 < F1 ∧ 0 ≤ F0 ∧ F1 ≤ 256 ∧ wr.cell? ⟨gb, o, none⟩ = some (.string t) ∧ t.size ≤ 16 ∧
      (Calls Try.prog 27 #[.pointer (some ⟨b, 0, none⟩)] wr fun e W => e = .returned (.tuple #[.int .i64 N0, .int .i64 F0, .int .i64 A0]) ∧ ∃ m, W = wr.drewN m) ∧
      (∀ m, Calls Try.prog 28 #[.pointer (some ⟨x, 0, none⟩)] (wr.drewN m) fun e W2 => e = .returned (.bool true) ∧ W2.cell? ⟨gb, o, none⟩ = some (.string t) ∧
        (Calls Try.prog 29 #[.pointer (some ⟨b, 0, none⟩), .string (plus t)] W2 fun e W => e = .returned (.int .i64 0) ∧ W = W2) ∧
        (Calls Try.prog 27 #[.pointer (some ⟨b, 0, none⟩)] W2 fun e W => e = .returned (.tuple #[.int .i64 N1, .int .i64 F1, .int .i64 A1]) ∧ ∃ m, W = W2.drewN m) ∧
        (∀ m, (W2.drewN m).cell? ⟨gb, o, none⟩ = some (.string t) ∧ Calls Try.prog 11 #[.pointer (some ⟨x, 0, none⟩), .string t] (W2.drewN m) fun e W3 => ∃ a' l' c', e = .returned (.tuple #[.slice a' l' c', .int .i64 27]) ∧ YI2 B w x mb b g Y wt k cap (some ⟨gb, o + 1, none⟩) J W3 ∧ (J = 0 → YI2 B w x mb b g Y wt k cap (some ⟨gb, o, none⟩) 0 W3))) := by
  obtain ⟨a, s, L, ord, sf, y1, rt, ap, apY⟩ := h.st
  have hol := rt.len
  cases ord with
  | nil => simp at hol
  | cons t rest =>
    have hol' : rest.length = J := by simpa using hol
    obtain ⟨v1, v2, v3, v4, v5, v6⟩ := y1.yield sf.ok
    have c0 := rt.cell _ rfl 0 (by omega)
    rw [off0] at c0
    have hG := sf.ok.good
    have hsz : t.size ≤ maxLen := by unfold maxLen; omega
    have hG' := sf.ok.yield.good
    have hf1 := freeTo_le (yieldP s L).1.pg (yieldP s L).1.n
    have hn1 := hG'.n1
    refine ⟨t, s.n, freeTo s.pg s.n, s.aside, (yieldP s L).1.n, freeTo (yieldP s L).1.pg (yieldP s L).1.n, (yieldP s L).1.aside, by omega, by omega, by omega, c0, v6, sizes_call sf.pool hG.n1, fun m => ?_⟩
    have kY := sf_yield (sf.drewN m) hc
    rw [v1] at kY
    refine kY.mono ?_
    rintro e W2 ⟨rfl, s2, o2⟩
    obtain ⟨q1, q2⟩ := (ap.drewN m).kept (sf.drewN m) o2 (fun _ h => .inl h)
    obtain ⟨q3, q4⟩ := (apY.drewN m).kept (sf.drewN m) o2 (fun _ h => .inl h)
    have rt2 : ReadT W2 (some ⟨gb, o, none⟩) (J + 1) (t :: rest) := (rt.drewN m).kept q2
    have nm2 := (h.nm.drewN m).kept q4
    have b2 : Below B w W2 := (below_drew h.bel ⟨m, rfl⟩ : Below B w (wr.drewN m)).trans (o2.below sf.lt)
    have c2 := rt2.cell _ rfl 0 (by omega)
    rw [off0] at c2
    refine ⟨rfl, c2, ?_, sizes_call s2.pool hn1, fun m2 => ⟨c2, ?_⟩⟩
    · have := count_call s2.pool hn1 (plus t)
      rw [v3] at this
      exact this
    · have kR := sf_read (s2.drewN m2) hc t hsz
      rw [v5] at kR
      refine kR.mono ?_
      rintro e W3 ⟨a', l', c', rfl, _, hb3⟩
      have hd := rt2.drop 1 (by omega)
      rw [off1] at hd
      have hap : Ap9 W2 (some ⟨gb, o + 1, none⟩) a := fun i hi => by
        obtain ⟨y, hy, rfl⟩ := hi
        obtain rfl := Option.some.inj hy
        exact q1 gb ⟨_, rfl, rfl⟩
      have s3 := (s2.drewN m2).below hb3
      have b3 : Below B w W3 := (below_drew b2 ⟨m2, rfl⟩ : Below B w (W2.drewN m2)).trans (hb3.mono s2.lt)
      have nm3 := (nm2.drewN m2).below hb3
      refine ⟨a', l', c', rfl, ⟨⟨a, _, _, rest, s3, v2, (hd.drewN m2).below hb3, (hap.drewN m2).below hb3, (q3.drewN m2).below hb3⟩, nm3, b3⟩, fun hJ => ?_⟩
      subst hJ
      obtain rfl : rest = [] := List.eq_nil_of_length_eq_zero hol'
      exact ⟨⟨a, _, _, [], s3, v2, ⟨rfl, by omega, fun h => by omega, fun _ _ i hi => by omega⟩, (q1.drewN m2).below hb3, (q3.drewN m2).below hb3⟩, nm3, b3⟩
/-- while they are pinned again -/
structure YI3 (B : Nat) (w : World) (x mb b g : Nat) (Y : Addr) (wt : Nat → List Int) (k cap : Nat) (wr : World) : Prop where
  st : ∃ a s L, Sf B wr x mb b g a s L cap ∧ Y3 wt k s L ∧ Ap9 wr (some Y) a
  nm : ReadT wr (some Y) 6 N6
  bel : Below B w wr

theorem reads_first {w : World} {y : Addr} {q : Nat} {z : Int} {zs : List Int} (h : Reads .i8 w (some y) q (z :: zs)) : Reads .i8 w (some y) 1 [z] := by
  have hl := h.len
  simp only [List.length_cons] at hl
  refine Reads.of_row rfl (by omega) (fun u hu => h.wf_mem u (by rw [List.mem_singleton.1 hu]; simp)) fun i hi => ?_
  have := h.cell y rfl i (by omega)
  obtain rfl : i = 0 := by omega
  simpa using this
theorem YI3.round {B : Nat} {w : World} {x mb b g : Nat} {Y : Addr} {z0 : List Int} {k cap j : Nat} {wr : World} (h : YI3 B w x mb b g Y (wtOf z0) k cap wr) (hc : cap ≤ 890) (hk : k ≤ 6) (hj : j < k) :
    ∃ t, wr.cell? (Y.add j) = some (.string t) ∧ Calls Try.prog 24 #[.pointer (some ⟨x, 0, none⟩), .string t] wr fun e W => e = .returned (.int .i64 0) ∧ W.cell? (Y.add j) = some (.string t) ∧
      Calls Try.prog 11 #[.pointer (some ⟨x, 0, none⟩), .string t] W fun e W3 => ∃ y c', e = .returned (.tuple #[.slice (some y) (sizeM z0 j + 1) c', .int .i64 0]) ∧ sizeM z0 j + 1 ≤ c' ∧ c' ≤ 9223372036854775807 ∧ Reads .i8 W3 (some y) 1 [(j : Int)] ∧ YI3 B w x mb b g Y (wtOf z0) k (cap + 1) W3 := by
  obtain ⟨a, s, L, sf, y3, apY⟩ := h.st
  have hsz := N6_small _ (N6_mem (show j < 6 by omega))
  obtain ⟨p0, p1, p2, p3⟩ := y3.pin sf.ok hk hj
  have c0 := h.nm.cell Y rfl j (by omega)
  refine ⟨_, c0, ?_⟩
  have kN := sf_pin sf (by omega) _ hsz
  rw [p0] at kN
  refine kN.mono ?_
  rintro e W ⟨rfl, ⟨a', s', ha⟩, o'⟩
  obtain ⟨q3, q4⟩ := apY.kept sf o' ha
  have nm' := h.nm.kept q4
  refine ⟨rfl, nm'.cell Y rfl j (by omega), ?_⟩
  have kR := sf_read s' (by omega) _ hsz
  rw [p2, p3] at kR
  refine kR.mono ?_
  rintro e W3 ⟨ra, rl, rc, rfl, rr, hb⟩
  have hl := rr.len
  rw [wtOf_len] at hl
  obtain ⟨y, hy⟩ := rr.reads.some_ (by omega)
  subst hy
  subst hl
  have b2 : Below B w W := h.bel.trans (o'.below sf.lt)
  refine ⟨y, rc, rfl, own_cap rr.own, ?_, reads_first rr.reads, ⟨⟨a', _, _, s'.below hb, p1, q3.below hb⟩, nm'.below hb, b2.trans (hb.mono s'.lt)⟩⟩
  rcases rr.own.2 with ⟨h1, _⟩ | ⟨g', cap', cur, h1, h2, h3, h4, h5, _⟩
  · cases h1
  · simp only [Value.slice.injEq] at h1
    unfold maxLen at h5
    omega
theorem YI3.below {B : Nat} {w : World} {x mb b g : Nat} {Y : Addr} {wt : Nat → List Int} {k cap : Nat} {wr W : World} (h : YI3 B w x mb b g Y wt k cap wr) (hb : Below wr.heap.size wr W) : YI3 B w x mb b g Y wt k cap W := by
  obtain ⟨a, s, L, sf, y3, apY⟩ := h.st
  exact ⟨⟨a, s, L, sf.below hb, y3, apY.below hb⟩, h.nm.below hb, h.bel.trans (hb.mono sf.lt)⟩

end Go.Proofs.Ytfggkkhehaafcaa

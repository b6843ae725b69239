/- Texts put together: CopyLast, Room1, Room, Append. -/
import Derived.Test.YtgjjeggopeppfaaRows
import Derived.Test.YtgjjeggopeppfaaPages
import Derived.Test.YtgjjeggopeppfaaBasis
import Derived.Test.YtgjjeggopeppfaaLeast
import Derived.Test.YtgjjeggopeppfaaLays
import Derived.Test.YtgjjeggopeppfaaTurns
import Derived.Test.YtgjjeggopeppfaaGoods
import Derived.Test.YtgjjeggopeppfaaSeqP
import Derived.Test.YtgjjeggopeppfaaSeqRN
import Derived.Test.YtgjjeggopeppfaaReadsB
import Derived.WalkKit
import Derived.ProofKit
import Derived.OpenShut
import Derived.Below
import Derived.WalkLawsBesides
import Derived.Deep.QuietTactic
import Derived.BigQuiet
import Derived.Laws.OwnMore
import Derived.Test.YtgjjeggopeppfaaLies
import Derived.Deep.RegionLaw
import Derived.Maps.AppendAt
import Derived.Deep.RegionHeld3
namespace Go.Proofs.Ytgjjeggopeppfaa

/- The program copies the last page into another one, which stands in its place then: the contract. -/
section
open Go.ChangeShapes Go.WideShapes Go.ChangeAt Go.RowKit
set_option linter.unusedVariables false
set_option linter.unusedSimpArgs false

/-- a number of the row is another -/
theorem SeqAt.put {B : Nat} {w : World} {x b : Nat} {t : ByteArray} {wd : Nat} {q : Sq} {a : Option Addr} {c : Nat} (h : SeqAt B w x b t wd q a c) {i : Nat} (hi : i < q.P.length) (z : Int) (hz : (Lit.int .i64 z).wf = true) :
    ∃ y, a = some y ∧ w.cell? (y.add i) = some (.int .i64 (q.P.getD i 0)) ∧ w.frozen? (y.add i) = false ∧ SeqAt B (w.setCell (y.add i) (.int .i64 z)) x b t wd ⟨q.P.set i z, q.st, q.n⟩ a c ∧ OffS B (fun _ => false) (Own x a) w (w.setCell (y.add i) (.int .i64 z)) := by
  obtain ⟨y, ey, hc⟩ := h.page hi
  refine ⟨y, ey, hc, ?_⟩
  have ho := h.pg.own
  rcases ho.2 with ⟨h1, _⟩ | ⟨g, cap, cur, h1, h2, h3, h4⟩
  · rw [ey] at h1; cases h1
  · simp only [Value.slice.injEq] at h1
    obtain ⟨e1, _, e2⟩ := h1
    have ey' := ey
    rw [e1] at ey'
    obtain rfl := Option.some.inj ey'
    rw [e1, e2] at ho
    rw [add_zero_at]
    obtain ⟨hs, _⟩ := ho.stored i (.int .i64 z)
    have hb : blkOf a g := ⟨_, e1, rfl⟩
    have os : OffS B (fun _ => false) (Own x a) w (w.setCell ⟨g, i, none⟩ (.int .i64 z)) := OffS.set h2 (.inr hb) i _
    obtain ⟨_, m, hr⟩ := h.pg.block hb
    have hx : (w.setCell ⟨g, i, none⟩ (.int .i64 z)).heap[x]? = w.heap[x]? := Below.heap_setCell w _ _ x (h.top.ne hr (by decide))
    refine ⟨ho.frozenAt i, ⟨h.Bx, h.top.of_block hx, (cell_of_block hx 0).trans h.c0, (cell_of_block hx 1).trans h.c1, (cell_of_block hx 2).trans h.c2, (cell_of_block hx 3).trans h.c3, (cell_of_block hx 4).trans h.c4, ?_, ⟨rfl, ?_, fun u hu => ?_⟩⟩, os⟩
    · show _ = some (Value.slice a (q.P.set i z).length c)
      rw [List.length_set]
      exact (cell_of_block hx 5).trans h.c5
    · rw [e1, e2]
      show World.ownsRow _ B 3 1 (.slice _ (q.P.set i z).length _) (q.P.set i z).length ((q.P.set i z).map (Value.int .i64))
      rw [List.length_set, List.map_set]
      exact hs
    · rcases List.mem_or_eq_of_mem_set hu with hu | rfl
      · exact h.pg.wf u hu
      · exact hz

theorem Good.copyTo {m : Nat} {s : Pl} (h : Good m s) (x y : Int) (k : Nat) : Good m (copyTo s x y k) := by
  induction k with
  | zero => exact h
  | succ k ih => exact ih.putS _ _ _
theorem Good.rowTo {m : Nat} {s : Pl} (h : Good m s) (z c : Int) (zs : List Int) (k : Nat) : Good m (rowTo s z c zs k) := by
  induction k with
  | zero => exact h
  | succ k ih => exact ih.putS _ _ _

theorem copyLast_call {g m : Nat} {s : Pl} {B : Nat} {w : World} {x b : Nat} {t : ByteArray} {wd : Nat} {q : Sq} {a : Option Addr} {c : Nat} (h : SeqAt B w x b t wd q a c) (hp : PoolAt B w b g s) (hG : Good m s) (hm : m ≤ 1000000) (hl : 0 < q.P.length) (hl' : q.P.length ≤ 1000) (y : Int) (hy : (Lit.int .i64 y).wf = true) :
    Calls Try.prog 58 #[.pointer (some ⟨x, 0, none⟩), .int .i64 y] w fun e w' => e = .returned (.tuple #[]) ∧ PoolAt B w' b g (drS (copyTo s (lastZ q.P) y 32) (lastZ q.P)) ∧ SeqAt B w' x b t wd ⟨q.P.set (q.P.length - 1) y, q.st, q.n⟩ a c ∧ OffS B TP (Own x a) w w' := by
  have k56 := last_call h hl hl'
  have H := hidden_ h
  have HG := hidden_ hG
  have HP := hidden_ hp
  have HY := hidden_ hy
  obtain ⟨Z, eZ⟩ : ∃ Z, lastZ q.P = Z := ⟨_, rfl⟩
  rw [eZ] at k56 ⊢
  obtain ⟨y0, rfl, _⟩ := h.page (i := q.P.length - 1) (by omega)
  obtain ⟨L, eL⟩ : ∃ L, q.P.length - 1 = L := ⟨_, rfl⟩
  rw [eL]
  have HL := hidden_ (show L + 1 = q.P.length by omega)
  obtain ⟨D, eD⟩ : ∃ D, drS (copyTo s Z y 32) Z = D := ⟨_, rfl⟩
  rw [eD]
  have HD := hidden_ eD
  have hl2 : L ≤ 1000 := by omega
  clear h hG hp hy eZ eL eD hl hl'
  go_enter Try.func58, Try.ntmps58
  go_wp2_with (first | (go_at_call 56; refine k56.mono ?_; rintro e W1 ⟨rfl, m1, h1⟩; have HW := hidden_ h1; clear h1 k56))
  go_loopw [10] (fun i wr => ∃ k : Nat, k ≤ 32 ∧ i = .int .i64 k ∧ PoolAt B wr b g (copyTo s Z y k) ∧ Off B TP w wr) (fun i _ => 32 - (intOf i).toNat)
  case atStart => exact ⟨0, by omega, rfl, by rw [HW.out]; exact HP.out.drewN m1, by rw [HW.out]; exact (Off.refl _ _ _).drewN m1⟩
  case round =>
    obtain ⟨k, hk, rfl, hp, ho⟩ := hrel
    have c0 := (H.out.off ho rfl rfl).c0
    by_cases hlt : k < 32
    · have hGk := HG.out.copyTo Z y k
      have k53 := get_call hp hGk.n1 Z k
      have k33 := fun v => put_call hp hGk y k v
      have e : putS (copyTo s Z y k) y k (getV (copyTo s Z y k) Z k) = copyTo s Z y (k + 1) := rfl
      obtain ⟨V, eV⟩ : ∃ V, getV (copyTo s Z y k) Z k = V := ⟨_, rfl⟩
      obtain ⟨E, eE⟩ : ∃ E, getE (copyTo s Z y k) Z k = E := ⟨_, rfl⟩
      obtain ⟨E', eE'⟩ : ∃ E', getE (copyTo s Z y k) y k = E' := ⟨_, rfl⟩
      replace k33 := k33 V
      rw [eV] at e k53
      rw [eE] at k53
      rw [e, eE'] at k33
      clear e eV eE eE' hGk
      have HO := hidden_ ho
      clear ho hp
      go_wp2_with (first
        | (go_at_call 53; refine k53.mono ?_; rintro e W2 ⟨rfl, h2⟩; obtain rfl := h2.symm; clear k53)
        | (go_at_call 33; refine k33.mono ?_; rintro e W3 ⟨rfl, hp3, ho3⟩; have HR := hidden_ (And.intro hp3 ho3); clear hp3 ho3))
      go_roundw
      case rel => exact ⟨k + 1, by omega, by go_num, HR.out.1, HO.out.trans HR.out.2⟩
      case measure => simp [intOf]; omega
    · have e : k = 32 := by omega
      subst e
      have k44 := drop_call hp (HG.out.copyTo Z y 32) hm Z
      have HO := hidden_ ho
      clear hp ho
      rw [HD.out] at k44
      obtain ⟨E, eE⟩ : ∃ E, shE (copyTo s Z y 32) Z = E := ⟨_, rfl⟩
      rw [eE] at k44
      clear eE
      go_wp2_with (first
        | (go_at_call 44; refine k44.mono ?_; rintro e W3 ⟨rfl, hp3, ho3⟩; have HR := hidden_ (And.intro hp3 (HO.out.trans ho3)); clear hp3 ho3 k44))
      have h3 := H.out.off HR.out.2 rfl rfl
      obtain ⟨y1, ey, hc, hf, hs, hos⟩ := h3.put (i := L) (by have := HL.out; omega) y HY.out
      obtain rfl := Option.some.inj ey
      have c5 := h3.c5
      rw [← HL.out] at c5
      obtain ⟨V, eV⟩ : ∃ V, q.P.getD L 0 = V := ⟨_, rfl⟩
      rw [eV] at hc
      have hne := HR.out.1.off (OffS.off hos h3) rfl rfl
      have HS := hidden_ (And.intro hne (And.intro hs (OffS.trans (HR.out.2.toS (Own x (some y0))) (hos.mono (fun _ _ => rfl) (fun _ z => z)) (fun _ z => .inl z))))
      have eI : ((L + 1 : Nat) : Int) - 1 = (L : Int) := by omega
      clear hs hos h3 eV c0 hne
      go_wp2
      go_region
      go_wp2
      go_end0
      exact ⟨rfl, HS.out.1.drewN 1, HS.out.2.1.drewN 1, HS.out.2.2.drewN 1⟩
end

/- One page more in a sequence's row; the page that is taken. -/
section
open Go.ChangeShapes Go.WideShapes Go.ChangeAt Go.RowKit
set_option linter.unusedVariables false
set_option linter.unusedSimpArgs false

/-- an append whose run is known, as a step of a region that draws its order -/
theorem step_append_run {P : Program} {ops : Array Oper} {o : Oper} {a : Act} {w : World} {K : Act → World → Prop} {Q : Exit → Act → World → Prop} {E : Prop}
    (hg : o.guard = none) (s x : Operand) (t : TypeId) (hop : o.op = Op.call { callee := Callee.builtin Builtin.append, args := #[s, x], argTypes := #[t, t] })
    (ty : TypeId) (hty : o.type = ty) (V1 V2 : Value) (hs : a.eval s = V1) (hx : a.eval x = V2) (v' : Value) (w' : World) (hrun : (Builtin.append_ #[t, t] ty #[V1, V2]).run P w = .ok v' w') (hK : K (a.put o.dst v') w') :
    if Region.wanted o (yielded ops a.tmps) = true then Oper.wp P o a w K Q else E := by
  have hw : Region.wanted o (yielded ops a.tmps) = true := by simp [Region.wanted, hg]
  rw [if_pos hw]
  subst hty
  unfold Oper.wp
  simp [execOp, hop, resolve, invoke, builtin, hs, hx, hrun, Result.andThen]
  exact hK

theorem ownBlock_blk {a : Option Addr} {l c k : Nat} {B : Nat} {w : World} {zs : List Int} (h : RowI B w a l c zs) (hk : blkOf a k) : (Value.slice a l c).ownBlock = some k := by
  obtain ⟨y, rfl, rfl⟩ := hk
  rfl
theorem blk_ownBlock {a : Option Addr} {l c k : Nat} (h : (Value.slice a l c).ownBlock = some k) : blkOf a k := by
  cases a with
  | none => cases h
  | some y => exact ⟨y, rfl, by simpa [Value.ownBlock] using h⟩

/-- one number more in a row of its own -/
theorem run_append1 {B : Nat} {w : World} {a : Option Addr} {l c : Nat} {zs : List Int} (h : RowI B w a l c zs) (hB : B ≤ w.heap.size) (hl : l ≤ 1000) (z : Int) (hz : (Lit.int .i64 z).wf = true) :
    ∃ a' c' W2, (Builtin.append_ #[49, 49] 49 #[.slice a l c, .slice (some ⟨w.heap.size, 0, none⟩) 1 1]).run Try.prog (w.alloc (.cells #[.int .i64 z] 3)).drew = .ok (.slice a' (l + 1) c') W2 ∧
      RowI B W2 a' (l + 1) c' (zs ++ [z]) ∧ (∀ k, blkOf a' k → blkOf a k ∨ w.heap.size ≤ k) ∧ OffS B (fun _ => false) (blkOf a) w W2 := by
  obtain ⟨i0, hi, hz0, hz1, hz2⟩ := info_parts info3
  have hown : (w.alloc (.cells #[.int .i64 z] 3)).drew.ownsRow B 3 1 (.slice a l c) l (zs.map (Value.int .i64)) := h.own.alloc _
  obtain ⟨v', w', hr, ho, hg, _, hb⟩ := run_append_own_at (P := Try.prog) (w := (w.alloc (.cells #[.int .i64 z] 3)).drew) B 49 49 3 i0 _ 1 8 Try.underlying49 hi hz0 hz1 hz2 rfl (by decide) _ l _ hown ⟨w.heap.size, 0, none⟩ 1 1 [.int .i64 z] rfl (one_newD w _ 3) (one_oneCell _ _) (by unfold maxLen; omega) (by omega) (size_newD w _ B hB)
  obtain ⟨a', c', rfl⟩ := own_form ho
  refine ⟨a', c', w', hr, ⟨by simp [h.len], by simpa using ho, fun u hu => ?_⟩, fun k hk => ?_, ?_⟩
  · rcases List.mem_append.1 hu with hu | hu
    · exact h.wf u hu
    · simp at hu; subst hu; exact hz
  · obtain ⟨y, rfl, rfl⟩ := hk
    rcases hb with hb | hb
    · exact .inl (blk_ownBlock hb.symm)
    · have e : some y.block = some (w.alloc (.cells #[.int .i64 z] 3)).drew.heap.size := hb
      have e' : y.block = w.heap.size + 1 := by
        have := Option.some.inj e
        simpa [World.drew] using this
      exact .inr (by omega)
  · have h1 : w.heap.size ≤ (w.alloc (.cells #[.int .i64 z] 3)).drew.heap.size := size_newD w _ _ (Nat.le_refl _)
    refine ⟨hg.os, hg.tape, hg.output, Nat.le_trans h1 hg.size, fun k hk hc => (hg.block k (Nat.lt_of_lt_of_le hk h1) fun e => ?_).trans ((below_new (Below.refl w.heap.size w) _).block k hk)⟩
    have hk' := blk_ownBlock e.symm
    rcases hc with hc | hc
    · have := (h.block hk').1
      omega
    · exact hc.1 hk'

/-- its pages are in another row: what the struct holds alone is asked -/
theorem SeqAt.newP {B : Nat} {w w' : World} {x b : Nat} {t : ByteArray} {wd : Nat} {q : Sq} {a a' : Option Addr} {c c' : Nat} (h : SeqAt B w x b t wd q a c) (e : w'.heap[x]? = w.heap[x]?) (P : List Int) (hp : RowI B w' a' P.length c' P) :
    SeqAt B (w'.setCell ⟨x, 5, none⟩ (.slice a' P.length c')) x b t wd ⟨P, q.st, q.n⟩ a' c' ∧ OffS B (fun _ => false) (fun k => k = x) w' (w'.setCell ⟨x, 5, none⟩ (.slice a' P.length c')) := by
  have ht := h.top.of_block e
  have os : OffS B (fun _ => false) (fun k => k = x) w' (w'.setCell ⟨x, 5, none⟩ (.slice a' P.length c')) := OffS.set (S := fun k => k = x) h.Bx rfl 5 _
  have o : ∀ j, j ≠ 5 → (w'.setCell ⟨x, 5, none⟩ (.slice a' P.length c')).cell? ⟨x, j, none⟩ = w.cell? ⟨x, j, none⟩ := fun j hj => (World.cell?_setCell_other _ _ _ _ (by simp [hj])).trans (cell_of_block e j)
  refine ⟨⟨h.Bx, ht.set 5 _, (o 0 (by decide)).trans h.c0, (o 1 (by decide)).trans h.c1, (o 2 (by decide)).trans h.c2, (o 3 (by decide)).trans h.c3, (o 4 (by decide)).trans h.c4, World.cell?_setCell_same _ _ _ ((cell_of_block e 5).trans h.c5), hp.offS os rfl (fun k hk e => ?_)⟩, os⟩
  obtain ⟨_, m, hr⟩ := hp.block hk
  exact hr.ne ht (by decide) e

theorem takeR_one {m : Nat} {s : Pl} (hG : Good m s) {t : ByteArray} (h0 : takeE s t 1 = 0) : takeR s t 1 = [takenZ s t] ∧ 0 ≤ takenZ s t ∧ takenZ s t < (s.n : Int) ∧ (s.pg (takenZ s t).toNat).ow = 0 := by
  obtain ⟨t0, t1, t2⟩ := takeE_zero h0
  have ha := hG.a0
  have e : takeR s t 1 = tk s.pg 1 s.n := by unfold takeR; rw [if_pos h0]; rfl
  have hl : (tk s.pg 1 s.n).length = 1 := by
    have := tk_len s.pg 1 s.n
    omega
  obtain ⟨z, hz⟩ := List.length_eq_one_iff.1 hl
  have ez : takenZ s t = z := by unfold takenZ; rw [e, hz]; rfl
  rw [e, ez]
  have hm : z ∈ tk s.pg 1 s.n := by rw [hz]; simp
  obtain ⟨z0, z1⟩ := tk_lt s.pg 1 s.n z hm
  refine ⟨hz, z0, z1, ?_⟩
  obtain ⟨x, rfl⟩ : ∃ x : Nat, z = (x : Int) := ⟨z.toNat, by omega⟩
  exact ((tk_mem s.pg 1 s.n x).1 hm).2.1
theorem taken_wf {m : Nat} {s : Pl} (hG : Good m s) {t : ByteArray} (h0 : takeE s t 1 = 0) : (Lit.int .i64 (takenZ s t)).wf = true := by
  obtain ⟨_, h1, h2, _⟩ := takeR_one hG h0
  have := hG.n1
  exact wf_i64 (by omega) (by omega)
end

/- The program makes room for the next row: the contract of makeRoom. -/
section
open Go.ChangeShapes Go.WideShapes Go.ChangeAt Go.RowKit
set_option linter.unusedVariables false
set_option linter.unusedSimpArgs false

theorem add_nought (y : Addr) : y.add 0 = y := by simp [Addr.add]
theorem Good.roomS {m wd : Nat} {s : Pl} (h : Good m s) (hm : 1 ≤ m) (t : ByteArray) (q : Sq) : Good m (roomS wd t s q) := by
  unfold Ytgjjeggopeppfaa.roomS
  split
  · split
    · exact ((h.takeS hm t 1).copyTo _ _ 32).drS _
    · exact h.takeS hm t 1
  · exact h

theorem makeRoom_call {g m : Nat} {s : Pl} {B : Nat} {w : World} {x b : Nat} {t : ByteArray} {wd : Nat} {q : Sq} {a : Option Addr} {c : Nat} (h : SeqAt B w x b t wd q a c) (hp : PoolAt B w b g s) (hG : Good m s) (hm : 1 ≤ m ∧ m ≤ 1000000) (hq : SqOk wd q) :
    Calls Try.prog 31 #[.pointer (some ⟨x, 0, none⟩)] w fun e w' => e = .returned (.int .i64 (roomE wd t s q)) ∧ ∃ a' c', PoolAt B w' b g (roomS wd t s q) ∧ SeqAt B w' x b t wd ⟨roomP wd t s q, q.st, q.n⟩ a' c' ∧ (∀ k, blkOf a' k → blkOf a k ∨ w.heap.size ≤ k) ∧ OffS B TP (Own x a) w w' := by
  have k29 := need_call h hp hG hq
  unfold needV at k29
  by_cases hn : needB wd s q = true
  · rw [if_pos hn] at k29
    have hB : B ≤ w.heap.size := hp.lt
    have k57 := fun m' => take_call (hp.drewN m') hG t 1
    have c0 := h.c0
    have c1 := h.c1
    have H := hidden_ h
    have hE : roomE wd t s q = takeE s t 1 := by unfold roomE; rw [if_pos hn]
    rw [hE]
    by_cases h0 : takeE s t 1 = 0
    · obtain ⟨r1, r2, r3, r4⟩ := takeR_one hG h0
      have hwf := taken_wf hG h0
      have eS : roomS wd t s q = if fitB wd q = true then drS (copyTo (takeS s t 1) (lastZ q.P) (takenZ s t) 32) (lastZ q.P) else takeS s t 1 := by unfold roomS; rw [if_pos ⟨hn, h0⟩]
      have eP : roomP wd t s q = if fitB wd q = true then q.P.set (q.P.length - 1) (takenZ s t) else q.P ++ [takenZ s t] := by unfold roomP; rw [if_pos ⟨hn, h0⟩]
      have hG1 := hG.takeS hm.1 t 1
      rw [eS, eP, h0]
      rw [r1] at k57
      have hl' : q.P.length ≤ 1000 := Nat.le_trans hq.len hq.few
      obtain ⟨Y, eY⟩ : ∃ Y, takenZ s t = Y := ⟨_, rfl⟩
      rw [eY] at k57 hwf ⊢
      simp only [h0] at k57
      obtain ⟨S1, eS1⟩ : ∃ S1, takeS s t 1 = S1 := ⟨_, rfl⟩
      rw [eS1] at k57 hG1 ⊢
      have k55 : Hid (∀ W, SeqAt B W x b t wd q a c → Calls Try.prog 55 #[.pointer (some ⟨x, 0, none⟩)] W fun e w' => e = .returned (.bool (fitB wd q)) ∧ ∃ m, w' = W.drewN m) := fun W hW => hasRoom_call hW hq
      by_cases hf : fitB wd q = true
      · rw [hf] at k55
        rw [if_pos hf, if_pos hf]
        have hl := fit_len hq hf
        have k58 : Hid (∀ W, SeqAt B W x b t wd q a c → PoolAt B W b g S1 → _) := fun W hW hP => copyLast_call hW hP hG1 hm.2 hl hl' Y hwf
        obtain ⟨D, eD⟩ : ∃ D, drS (copyTo S1 (lastZ q.P) Y 32) (lastZ q.P) = D := ⟨_, rfl⟩
        rw [eD] at k58 ⊢
        clear h hp hG hm hq hn hE r1 r2 r3 r4 eS eP eY eS1 hG1 hf eD h0 hl hl' hwf
        go_enter Try.func31, Try.ntmps31
        go_wp2_with (first | (go_at_call 29; refine k29.mono ?_; rintro e W1 ⟨rfl, m1, h1⟩; have k57' := k57 (m1 + 1); have HW := hidden_ h1; subst h1; clear k57 k29))
        go_region_held3 (fun W => W.cell? ⟨x, 0, none⟩ = some (.pointer (some ⟨b, 0, none⟩)) ∧ W.cell? ⟨x, 1, none⟩ = some (.string t)) (first | assumption | (exact ⟨c0, c1⟩) | exact d01) (first
          | (go_at_call 57; refine k57'.mono ?_; rintro e W2 ⟨a1, l1, p1, rfl, hr1, hp1, ho1⟩; have ho2 : Off B TP w W2 := ⟨ho1.os, ho1.tape, ho1.output, ho1.size, ho1.block⟩; have h2 := H.out.off ho2 rfl rfl; have d01 := And.intro h2.c0 h2.c1; have HT := hidden_ (And.intro hr1 (And.intro hp1 (And.intro ho2 h2))); clear hr1 hp1 ho1 ho2 h2))
        have l1e : l1 = 1 := HT.out.1.len.symm
        subst l1e
        obtain ⟨y1, rfl⟩ := HT.out.1.reads.some_ (by omega)
        have d1 : W2.cell? y1 = some (.int .i64 Y) := by have := HT.out.1.reads.cell y1 rfl 0 (by omega); rwa [add_nought] at this
        have d1' : W2.cell? (y1.add 0) = some (.int .i64 Y) := by rw [add_nought]; exact d1
        have kk := k55.out W2 HT.out.2.2.2
        go_wp2_with (first
          | (go_at_call 55; refine kk.mono ?_; rintro e W3 ⟨rfl, m3, h3⟩; have kc := k58.out W3 (by rw [h3]; exact HT.out.2.2.2.drewN m3) (by rw [h3]; exact HT.out.2.1.drewN m3); have d3 : W3.cell? y1 = some (.int .i64 Y) := (by rw [h3]; exact d1); have d3' : W3.cell? (y1.add 0) = some (.int .i64 Y) := (by rw [h3]; exact d1'); have H3 := hidden_ (show Off B TP w W3 by rw [h3]; exact HT.out.2.2.1.drewN m3); clear h3 kk)
          | (go_at_call 58; refine kc.mono ?_; rintro e W4 ⟨rfl, hp4, hs4, ho4⟩; have HF := hidden_ (And.intro hp4 (And.intro hs4 ho4)); clear hp4 hs4 ho4 kc))
        go_ret
        exact ⟨rfl, _, _, HF.out.1, HF.out.2.1, fun k hk => .inl hk, OffS.trans (H3.out.toS _) HF.out.2.2 (fun _ z => .inl z)⟩
      · have hf' : fitB wd q = false := by simpa using hf
        rw [hf'] at k55
        rw [if_neg hf, if_neg hf]
        clear h hp hG hm hq hn hE r1 r2 r3 r4 eS eP eY eS1 hG1 hf h0 hf'
        go_enter Try.func31, Try.ntmps31
        go_wp2_with (first | (go_at_call 29; refine k29.mono ?_; rintro e W1 ⟨rfl, m1, h1⟩; have k57' := k57 (m1 + 1); have HW := hidden_ h1; subst h1; clear k57 k29))
        go_region_held3 (fun W => W.cell? ⟨x, 0, none⟩ = some (.pointer (some ⟨b, 0, none⟩)) ∧ W.cell? ⟨x, 1, none⟩ = some (.string t)) (first | assumption | (exact ⟨c0, c1⟩) | exact d01) (first
          | (go_at_call 57; refine k57'.mono ?_; rintro e W2 ⟨a1, l1, p1, rfl, hr1, hp1, ho1⟩; have ho2 : Off B TP w W2 := ⟨ho1.os, ho1.tape, ho1.output, ho1.size, ho1.block⟩; have h2 := H.out.off ho2 rfl rfl; have d01 := And.intro h2.c0 h2.c1; have HT := hidden_ (And.intro hr1 (And.intro hp1 (And.intro ho2 h2))); clear hr1 hp1 ho1 ho2 h2))
        have l1e : l1 = 1 := HT.out.1.len.symm
        subst l1e
        obtain ⟨y1, rfl⟩ := HT.out.1.reads.some_ (by omega)
        have d1 : W2.cell? y1 = some (.int .i64 Y) := by have := HT.out.1.reads.cell y1 rfl 0 (by omega); rwa [add_nought] at this
        have d1' : W2.cell? (y1.add 0) = some (.int .i64 Y) := by rw [add_nought]; exact d1
        have kk := k55.out W2 HT.out.2.2.2
        go_wp2_with (first
          | (go_at_call 55; refine kk.mono ?_; rintro e W3 ⟨rfl, m3, h3⟩; have d3 : W3.cell? y1 = some (.int .i64 Y) := (by rw [h3]; exact d1); have d3' : W3.cell? (y1.add 0) = some (.int .i64 Y) := (by rw [h3]; exact d1'); have H3 := hidden_ (And.intro (show Off B TP w W3 by rw [h3]; exact HT.out.2.2.1.drewN m3) (And.intro (show SeqAt B W3 x b t wd q a c by rw [h3]; exact HT.out.2.2.2.drewN m3) (show PoolAt B W3 b g S1 by rw [h3]; exact HT.out.2.1.drewN m3))); clear h3 kk))
        obtain ⟨o3, s3, p3⟩ := H3.out
        have hB3 : B ≤ W3.heap.size := p3.lt
        obtain ⟨a', c', W5, hrun, hr5, hb5, ho5⟩ := run_append1 s3.pg hB3 hl' Y hwf
        have c53 := s3.c5
        have s5 : SeqAt B W5 x b t wd q a c ∨ True := .inr trivial
        have hx5 : W5.heap[x]? = W3.heap[x]? := ho5.row s3.top rfl (fun hk => by obtain ⟨_, m', hr⟩ := s3.pg.block hk; exact s3.top.ne hr (by decide) rfl)
        have e5 : W5.cell? ⟨x, 5, none⟩ = some (.slice a q.P.length c) := (cell_of_block hx5 5).trans s3.c5
        have f5 : W5.frozen? ⟨x, 5, none⟩ = false := (s3.top.of_block hx5).open_ 5
        have c54 : (W3.alloc (.cells #[.int .i64 Y] 3)).cell? ⟨x, 5, none⟩ = some (.slice a q.P.length c) := ((below_new (Below.refl _ W3) _).cell (p := ⟨x, 5, none⟩) s3.top.lt).trans s3.c5
        have hr5' : RowI B W5 a' (q.P ++ [Y]).length c' (q.P ++ [Y]) := by rw [List.length_append]; exact hr5
        obtain ⟨s6, o6⟩ := s3.newP hx5 (q.P ++ [Y]) hr5'
        have e6 : (q.P ++ [Y]).length = q.P.length + 1 := by simp
        rw [e6] at s6 o6
        have o35 : OffS B TP (Own x a) W3 (W5.setCell ⟨x, 5, none⟩ (.slice a' (q.P.length + 1) c')) := OffS.trans (ho5.mono (fun _ _ => rfl) (fun _ z => .inr z)) (o6.mono (fun _ _ => rfl) (fun _ z => .inl z)) (fun _ z => .inl z)
        have o35' := fun {t' : TypeId} {g' m' : Nat} (r : Row t' W3 g' m') (h1 : t' ≠ 72) (h2 : t' ≠ 3) => OffS.row (OffS.trans (ho5.mono (T' := fun _ => false) (fun _ _ => rfl) (fun _ z => .inr z)) (o6.mono (S' := Own x a) (fun _ _ => rfl) (fun _ z => .inl z)) (fun _ z => .inl z)) r rfl (fun z => by rcases (s3.type z).2.2 with e | e <;> (rw [r.type] at e; injection e with e; first | exact h1 e | exact h2 e))
        have p6 : PoolAt B (W5.setCell ⟨x, 5, none⟩ (.slice a' (q.P.length + 1) c')) b g S1 := p3.of_blocks (o35' p3.top (by decide) (by decide)) (o35' p3.row (by decide) (by decide))
        have HS := hidden_ (And.intro p6 (And.intro s6 (And.intro (fun k hk => (hb5 k hk).imp id (fun z => Nat.le_trans o3.size z)) (OffS.trans (o3.toS _) o35 (fun _ z => .inl z)))))
        obtain ⟨L, eL⟩ : ∃ L, q.P.length = L := ⟨_, rfl⟩
        rw [eL] at hrun e5 c53 c54 hl' HS
        clear s5 hr5 hb5 ho5 hx5 o3 s3 p3 eL hr5' s6 o6 e6 o35 o35' p6
        go_wp2
        go_region_law (refine step_append_run rfl (.tmp 34) (.tmp 38) 49 rfl 49 rfl _ _ (by simp [Act.eval, Act.put]) (by simp [Act.eval, Act.put]) _ _ hrun ?_)
        all_goals
          go_wp2
          go_ret
          exact ⟨rfl, _, _, HS.out.1, HS.out.2.1, HS.out.2.2.1, HS.out.2.2.2⟩
    · have eS : roomS wd t s q = s := by unfold roomS; rw [if_neg (fun z => h0 z.2)]
      have eP : roomP wd t s q = q.P := by unfold roomP; rw [if_neg (fun z => h0 z.2)]
      have eT : takeS s t 1 = s := by unfold takeS; rw [if_neg h0]
      rw [eS, eP]
      rw [eT] at k57
      obtain ⟨E, eE⟩ : ∃ E, takeE s t 1 = E := ⟨_, rfl⟩
      rw [eE] at h0 k57 ⊢
      have h0' : (E == 0) = false := by simp [h0]
      have h0'' : (E != 0) = true := by simp [h0]
      obtain ⟨R, eR⟩ : ∃ R, takeR s t 1 = R := ⟨_, rfl⟩
      rw [eR] at k57
      clear h hp hG hm hq hn hE eS eP eT eE eR
      go_enter Try.func31, Try.ntmps31
      go_wp2_with (first | (go_at_call 29; refine k29.mono ?_; rintro e W1 ⟨rfl, m1, h1⟩; have k57' := k57 (m1 + 1); have HW := hidden_ h1; subst h1; clear k57 k29))
      go_region_held3 (fun W => W.cell? ⟨x, 0, none⟩ = some (.pointer (some ⟨b, 0, none⟩)) ∧ W.cell? ⟨x, 1, none⟩ = some (.string t)) (first | assumption | (exact ⟨c0, c1⟩) | exact d01) (first
        | (go_at_call 57; refine k57'.mono ?_; rintro e W2 ⟨a1, l1, p1, rfl, hr1, hp1, ho1⟩; have ho2 : Off B TP w W2 := ⟨ho1.os, ho1.tape, ho1.output, ho1.size, ho1.block⟩; have h2 := H.out.off ho2 rfl rfl; have d01 := And.intro h2.c0 h2.c1; have HT := hidden_ (And.intro hr1 (And.intro hp1 (And.intro ho2 h2))); clear hr1 hp1 ho1 ho2 h2))
      go_wp2
      go_ret
      exact ⟨rfl, _, _, HT.out.2.1, HT.out.2.2.2, fun k hk => .inl hk, HT.out.2.2.1.toS _⟩
  · rw [if_neg hn] at k29
    have eE : roomE wd t s q = 0 := by unfold roomE; rw [if_neg hn]
    have eS : roomS wd t s q = s := by unfold roomS; rw [if_neg (fun z => hn z.1)]
    have eP : roomP wd t s q = q.P := by unfold roomP; rw [if_neg (fun z => hn z.1)]
    rw [eE, eS, eP]
    have HF := hidden_ (And.intro h hp)
    clear h hp hG hm hq hn eE eS eP
    go_enter Try.func31, Try.ntmps31
    go_wp2_with (first | (go_at_call 29; refine k29.mono ?_; rintro e W1 ⟨rfl, m1, h1⟩; have HW := hidden_ h1; clear h1 k29))
    go_ret
    exact ⟨rfl, _, _, by rw [HW.out]; exact HF.out.2.drewN m1, by rw [HW.out]; exact HF.out.1.drewN m1, fun k hk => .inl hk, by rw [HW.out]; exact (OffS.refl _ _ _ _).drewN m1⟩
end

/- The program appends a row to a sequence: the contract. -/
section
open Go.ChangeShapes Go.WideShapes Go.ChangeAt Go.RowKit
set_option linter.unusedVariables false
set_option linter.unusedSimpArgs false

/-- a row of numbers of 64 bits of a call's own -/
structure RowJ (B : Nat) (w : World) (a : Option Addr) (l c : Nat) (zs : List Int) : Prop where
  len : zs.length = l
  own : w.ownsRow B 2 1 (.slice a l c) l (zs.map (Value.int .i64))
  wf : ∀ z ∈ zs, (Lit.int .i64 z).wf = true
theorem RowJ.nil (B : Nat) (w : World) : RowJ B w none 0 0 [] := ⟨rfl, World.ownsRow_nil _ _ _ _, by simp⟩
theorem RowJ.reads {B : Nat} {w : World} {a : Option Addr} {l c : Nat} {zs : List Int} (h : RowJ B w a l c zs) : Reads .i64 w a l zs :=
  own_reads_at h.own h.len h.wf (fun j hj => ints_at _ j (by rw [h.len]; exact hj))
theorem RowJ.off {B B' : Nat} {T : TypeId → Bool} {w w' : World} {a : Option Addr} {l c : Nat} {zs : List Int} (h : RowJ B w a l c zs) (o : Off B' T w w') (hT : T 2 = false) : RowJ B w' a l c zs := ⟨h.len, own_off h.own o hT, h.wf⟩
theorem RowJ.below {B : Nat} {w w' : World} {a : Option Addr} {l c : Nat} {zs : List Int} (h : RowJ B w a l c zs) (o : Below w.heap.size w w') : RowJ B w' a l c zs := h.off (T := fun _ => false) (B' := 0) (Off.of_below o) rfl
theorem RowJ.mono {B B' : Nat} {w : World} {a : Option Addr} {l c : Nat} {zs : List Int} (h : RowJ B w a l c zs) (hB : B' ≤ B) : RowJ B' w a l c zs := by
  refine ⟨h.len, ⟨h.own.1, ?_⟩, h.wf⟩
  rcases h.own.2 with h1 | ⟨g, cap, cur, h1, h2, h3⟩
  · exact .inl h1
  · exact .inr ⟨g, cap, cur, h1, Nat.le_trans hB h2, h3⟩
theorem RowJ.block {B : Nat} {w : World} {a : Option Addr} {l c : Nat} {zs : List Int} (h : RowJ B w a l c zs) {k : Nat} (hk : blkOf a k) : B ≤ k ∧ ∃ m, Row 2 w k m := by
  obtain ⟨y, rfl, rfl⟩ := hk
  rcases h.own.2 with ⟨h1, _⟩ | ⟨g, cap, cur, h1, h2, h3, h4⟩
  · cases h1
  · simp only [Value.slice.injEq, Option.some.injEq] at h1
    obtain ⟨rfl, _, _⟩ := h1
    exact ⟨h2, _, cur, h3, rfl⟩

/-- behind an act of a sequence: the pool and the sequence are these; only the pool, the sequence's struct and its row were written -/
def Did (B : Nat) (w : World) (x b g : Nat) (t : ByteArray) (wd : Nat) (a : Option Addr) (s : Pl) (q : Sq) (w' : World) : Prop :=
  ∃ a' c', PoolAt B w' b g s ∧ SeqAt B w' x b t wd q a' c' ∧ (∀ k, blkOf a' k → blkOf a k ∨ w.heap.size ≤ k) ∧ OffS B TP (Own x a) w w'

theorem append_call {g m : Nat} {s : Pl} {B : Nat} {w : World} {x b : Nat} {t : ByteArray} {wd : Nat} {q : Sq} {a : Option Addr} {c : Nat} (h : SeqAt B w x b t wd q a c) (hp : PoolAt B w b g s) (hG : Good m s) (hm : 1 ≤ m ∧ m ≤ 1000000) (hq : SqOk wd q) (hn : q.n < 1000) {B' : Nat} (ra : Option Addr) (rl rc : Nat) (zs : List Int) (hr : RowJ B' w ra rl rc zs) :
    Calls Try.prog 12 #[.pointer (some ⟨x, 0, none⟩), .slice ra rl rc] w fun e w' => e = .returned (.int .i64 (appE wd t s q zs)) ∧ Did B w x b g t wd a (appS wd t s q zs) (appQ wd t s q zs) w' := by
  have c2 := h.c2
  have hlen := hr.len
  have hmx := hr.reads.max
  have w1 := hq.w1
  by_cases hw : rl = wd
  · subst hw
    have k31 := makeRoom_call h hp hG hm hq
    have hE : appE rl t s q zs = roomE rl t s q := by unfold appE; rw [if_neg (by omega)]
    unfold appS appQ
    rw [hE]
    by_cases h0 : roomE rl t s q = 0
    · rw [if_pos h0, if_pos h0]
      obtain ⟨l1, l2⟩ := room_lt hq h0
      have hr0 := hq.rr
      have hlt : (q.n - q.st) / (32 / rl) < (roomP rl t s q).length := by rw [Nat.div_lt_iff_lt_mul (by omega)]; exact l1
      have hGr := hG.roomS (wd := rl) hm.1 t q
      have hcl := fun k hk => cell_lt hq.w0 hq.w1 q.st q.n k hk
      have k32 : Hid (∀ W a' c', SeqAt B W x b t rl ⟨roomP rl t s q, q.st, q.n⟩ a' c' → _) := fun W a' c' hW => place_call13 hW ⟨hq.w0, hq.w1⟩ q.n hq.st (by omega) hlt
      simp only at k32
      rw [h0] at k31 ⊢
      obtain ⟨S1, eS1⟩ : ∃ S1, roomS rl t s q = S1 := ⟨_, rfl⟩
      obtain ⟨P1, eP1⟩ : ∃ P1, roomP rl t s q = P1 := ⟨_, rfl⟩
      rw [eS1] at hGr
      simp only [eS1, eP1] at k31 k32 ⊢
      obtain ⟨Z, eZ⟩ : ∃ Z, pageZ rl P1 q.st q.n = Z := ⟨_, rfl⟩
      obtain ⟨C, eC⟩ : ∃ C, cellN rl q.st q.n = C := ⟨_, rfl⟩
      simp only [eZ, eC] at k32 hcl ⊢
      have H := hidden_ h
      have HR := hidden_ hr
      have HG := hidden_ hGr
      have HC := hidden_ hcl
      obtain ⟨n, en⟩ : ∃ n, q.n = n := ⟨_, rfl⟩
      obtain ⟨st, es⟩ : ∃ st, q.st = st := ⟨_, rfl⟩
      simp only [en, es] at k31 k32 hn ⊢
      obtain ⟨D, eD⟩ : ∃ D, rowTo S1 Z (C : Int) zs rl = D := ⟨_, rfl⟩
      rw [eD]
      have HD := hidden_ eD
      clear h hp hG hm hq hE hr h0 l1 l2 hr0 hlt hGr hcl eS1 eP1 eZ eC en es eD
      go_enter Try.func12, Try.ntmps12
      go_wp2_with (first
        | (go_at_call 31; refine k31.mono ?_; rintro e W1 ⟨rfl, a', c', hp1, hs1, hb1, ho1⟩; have kk := k32.out W1 a' c' hs1; have c41 := hs1.c4; simp only at c41; have H1 := hidden_ (And.intro hp1 (And.intro hs1 (And.intro hb1 ho1))); clear hp1 hs1 hb1 ho1 k31)
        | (go_at_call 32; refine kk.mono ?_; rintro e W2 ⟨rfl, m2, h2⟩; have HW := hidden_ h2; clear h2 kk))
      go_loopw [33] (fun i wr => ∃ k : Nat, k ≤ rl ∧ i = .int .i64 k ∧ PoolAt B wr b g (rowTo S1 Z (C : Int) zs k) ∧ SeqAt B wr x b t rl ⟨P1, st, n⟩ a' c' ∧ RowJ B' wr ra rl rc zs ∧ OffS B TP (Own x a) w wr) (fun i _ => rl - (intOf i).toNat)
      case atStart =>
        refine ⟨0, Nat.zero_le _, rfl, ?_, ?_, ?_, ?_⟩
        · rw [HW.out]; exact H1.out.1.drewN m2
        · rw [HW.out]; exact H1.out.2.1.drewN m2
        · rw [HW.out]; exact (HR.out.off (OffS.off H1.out.2.2.2 H.out) rfl).below (by exact ⟨rfl, rfl, rfl, Nat.le_refl _, fun _ _ => rfl⟩)
        · rw [HW.out]; exact H1.out.2.2.2.drewN m2
      case round =>
        obtain ⟨k, hk, rfl, hp, hs, hrj, ho⟩ := hrel
        have c0 := hs.c0
        by_cases hlt : k < rl
        · obtain ⟨y, rfl⟩ := hrj.reads.some_ (by omega)
          have cv := hrj.reads.cell y rfl k hlt
          obtain ⟨V, eV⟩ : ∃ V, zs.getD k 0 = V := ⟨_, rfl⟩
          rw [eV] at cv
          have k33 := put_call hp (HG.out.rowTo Z C zs k) Z ((C : Int) + (k : Int)) V
          have e : putS (rowTo S1 Z C zs k) Z ((C : Int) + (k : Int)) V = rowTo S1 Z C zs (k + 1) := by rw [← eV]; rfl
          rw [e] at k33
          have hc := HC.out k hlt
          obtain ⟨E, eE⟩ : ∃ E, getE (rowTo S1 Z C zs k) Z ((C : Int) + (k : Int)) = E := ⟨_, rfl⟩
          rw [eE] at k33
          have HO := hidden_ (And.intro hs (And.intro hrj ho))
          clear hp hs hrj ho e eV eE
          go_wp2_with (first
            | (go_at_call 33; refine k33.mono ?_; rintro e W3 ⟨rfl, hp3, ho3⟩; have HP := hidden_ (And.intro hp3 ho3); clear hp3 ho3 k33))
          go_roundw
          case rel => exact ⟨k + 1, by omega, by go_num, HP.out.1, HO.out.1.off HP.out.2 rfl rfl, HO.out.2.1.off HP.out.2 rfl, OffS.trans HO.out.2.2 (HP.out.2.toS (Own x a)) (fun _ z => .inl z)⟩
          case measure => simp [intOf]; omega
        · have e : k = rl := by omega
          subst e
          have c4 := hs.c4
          simp only at c4
          have f4 := hs.top.open_ 4
          obtain ⟨hs', os'⟩ := hs.setN (n + 1)
          rw [HD.out] at hp
          have hp' : PoolAt B (wr.setCell ⟨x, 4, none⟩ (.int .i64 (n + 1 : Nat))) b g D := hp.of_blocks (os'.row hp.top rfl (hp.top.ne hs.top (by decide))) (os'.row hp.row rfl (hp.row.ne hs.top (by decide)))
          have HF := hidden_ (And.intro hp' (And.intro hs' (OffS.trans ho (os'.mono (T' := TP) (S' := Own x a) (fun _ _ => rfl) (fun _ z => .inl z)) (fun _ z => .inl z))))
          clear hs hp ho hrj hs' os' hp'
          obtain ⟨W4, eW⟩ : ∃ W4, wr.setCell ⟨x, 4, none⟩ (.int .i64 (n + 1 : Nat)) = W4 := ⟨_, rfl⟩
          rw [eW] at HF
          have eW' : wr.setCell ⟨x, 4, none⟩ (.int .i64 ((n : Int) + 1)) = W4 := eW
          clear eW
          go_wp2
          go_ret
          exact ⟨rfl, _, _, HF.out.1, HF.out.2.1, H1.out.2.2.1, HF.out.2.2⟩
    · rw [if_neg h0, if_neg h0]
      have eS : roomS rl t s q = s := by unfold roomS; rw [if_neg (fun z => h0 (by unfold roomE; rw [if_pos z.1]; exact z.2))]
      have eP : roomP rl t s q = q.P := by unfold roomP; rw [if_neg (fun z => h0 (by unfold roomE; rw [if_pos z.1]; exact z.2))]
      simp only [eS, eP] at k31
      obtain ⟨E, eE⟩ : ∃ E, roomE rl t s q = E := ⟨_, rfl⟩
      rw [eE] at h0 k31 ⊢
      have h0' : (E == 0) = false := by simp [h0]
      have h0'' : (E != 0) = true := by simp [h0]
      clear h hp hG hm hq hE hr eS eP eE
      go_enter Try.func12, Try.ntmps12
      go_wp2_with (first
        | (go_at_call 31; refine k31.mono ?_; rintro e W1 ⟨rfl, a', c', hp1, hs1, hb1, ho1⟩; have H1 := hidden_ (And.intro hp1 (And.intro hs1 (And.intro hb1 ho1))); clear hp1 hs1 hb1 ho1 k31))
      go_ret
      exact ⟨rfl, a', c', H1.out⟩
  · have hE : appE wd t s q zs = 21 := by unfold appE; rw [if_pos (by omega)]
    unfold appS appQ
    rw [hE, if_neg (by decide), if_neg (by decide)]
    have HF := hidden_ (And.intro h hp)
    have hw' : ((rl : Int) == (wd : Int)) = false := by simp; omega
    have hw'' : ((rl : Int) != (wd : Int)) = true := by simp; omega
    clear h hp hG hm hq hr hE hlen
    go_enter Try.func12, Try.ntmps12
    go_wp2
    go_ret
    exact ⟨rfl, _, _, HF.out.2, HF.out.1, fun k hk => .inl hk, OffS.refl _ _ _ _⟩
end

end Go.Proofs.Ytgjjeggopeppfaa

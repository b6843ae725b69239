/- What the document reads of a row; its New and Release: the contracts. -/
import Derived.Test.YtgjjeggopeppfaaRows
import Derived.Test.YtgjjeggopeppfaaPages
import Derived.Test.YtgjjeggopeppfaaBasis
import Derived.Test.YtgjjeggopeppfaaLeast
import Derived.Test.YtgjjeggopeppfaaLays
import Derived.Test.YtgjjeggopeppfaaTurns
import Derived.Test.YtgjjeggopeppfaaGoods
import Derived.Test.YtgjjeggopeppfaaRefA
import Derived.Test.YtgjjeggopeppfaaRefTk
import Derived.Test.YtgjjeggopeppfaaRefTurns
import Derived.Test.YtgjjeggopeppfaaLies
import Derived.Test.YtgjjeggopeppfaaSeqP
import Derived.Test.YtgjjeggopeppfaaSeqRN
import Derived.Test.YtgjjeggopeppfaaReadsB
import Derived.Test.YtgjjeggopeppfaaRooms
import Derived.Test.YtgjjeggopeppfaaForks
import Derived.Test.YtgjjeggopeppfaaRows13
import Derived.Test.YtgjjeggopeppfaaDocAt
import Derived.WalkKit
import Derived.ProofKit
import Derived.OpenShut
import Derived.Below
import Derived.WalkLawsBesides
import Derived.Deep.QuietTactic
import Derived.BigQuiet
import Derived.OwnWalk
import Derived.Deep.RegionHeld3
namespace Go.Proofs.Ytgjjeggopeppfaa
open Go.ChangeShapes Go.WideShapes Go.ChangeAt Go.RowKit
set_option linter.unusedVariables false
set_option linter.unusedSimpArgs false

/-- behind an act of a sequence of the document's -/
def DidR (B : Nat) (w : World) (x b g : Nat) (t : ByteArray) (wd : Nat) (a : Option Addr) (s : Pl) (q : Sq) (w' : World) : Prop :=
  ∃ a' c' r', RefAt B w' b g s r' ∧ DocAt B w' x b t wd q a' c' ∧ (∀ k, blkOf a' k → blkOf a k ∨ w.heap.size ≤ k) ∧ OffS B TR (fun k => k = x) w w'

theorem TQ_TR' (t : TypeId) (h : TR t = false) : TQ t = false := TQ_TR t h
theorem OffS.offD {B : Nat} {T : TypeId → Bool} {w w' : World} {x b : Nat} {t : ByteArray} {wd : Nat} {q : Sq} {a : Option Addr} {c : Nat} (o : OffS B T (fun k => k = x) w w') (h : DocAt B w x b t wd q a c) : Off B (fun t => T t || t == 51) w w' :=
  ⟨o.os, o.tape, o.output, o.size, fun k hk hc => o.block k hk (hc.imp id fun y => ⟨fun z => by have := y 51 (by rw [z]; exact h.top.type); simp at this, fun t' ht => by have := y t' ht; simp only [Bool.or_eq_false_iff] at this; exact this.1⟩)⟩

theorem rnew_call (b : Nat) (t : ByteArray) (wd : Nat) (h0 : ¬ t.toList = []) (h1 : 1 ≤ wd) (h2 : wd ≤ 32) (w : World) :
    Calls Try.prog 10 #[.pointer (some ⟨b, 0, none⟩), .string t, .int .i64 wd] w fun e w' => ∃ x, e = .returned (.tuple #[.pointer (some ⟨x, 0, none⟩), .int .i64 0]) ∧ w.heap.size ≤ x ∧ (∀ B, B ≤ w.heap.size → DocAt B w' x b t wd ⟨[], 0, 0⟩ none 0) ∧ Below w.heap.size w w' := by
  have q := empty_false h0
  have HB := below_new (Below.refl w.heap.size w) (.cells #[.pointer (some ⟨b, 0, none⟩), .string t, .int .i64 wd, .slice none 0 0, .int .i64 0, .int .i64 0] 51)
  have hx : (w.alloc (.cells #[.pointer (some ⟨b, 0, none⟩), .string t, .int .i64 wd, .slice none 0 0, .int .i64 0, .int .i64 0] 51)).heap[w.heap.size]? = some (.cells #[.pointer (some ⟨b, 0, none⟩), .string t, .int .i64 wd, .slice none 0 0, .int .i64 0, .int .i64 0] 51 (0, 0)) := heap_alloc_new w _
  have HF : Hid ((∀ B, B ≤ w.heap.size → DocAt B (w.alloc (.cells #[.pointer (some ⟨b, 0, none⟩), .string t, .int .i64 wd, .slice none 0 0, .int .i64 0, .int .i64 0] 51)) w.heap.size b t wd ⟨[], 0, 0⟩ none 0) ∧ Below w.heap.size w (w.alloc (.cells #[.pointer (some ⟨b, 0, none⟩), .string t, .int .i64 wd, .slice none 0 0, .int .i64 0, .int .i64 0] 51))) :=
    ⟨fun B hB => ⟨hB, ⟨_, hx, rfl⟩, by unfold World.cell?; rw [hx]; rfl, by unfold World.cell?; rw [hx]; rfl, by unfold World.cell?; rw [hx]; rfl, by unfold World.cell?; rw [hx]; rfl, by unfold World.cell?; rw [hx]; rfl, by unfold World.cell?; rw [hx]; rfl, Reads.nil _ _, (fun k hk => by obtain ⟨_, h, _⟩ := hk; cases h), Nat.le_refl _, by decide, fun _ => rfl⟩, HB⟩
  clear hx HB h0
  go_enter Try.func10, Try.ntmps10
  go_wp2
  go_ret2
  exact ⟨_, rfl, Nat.le_refl _, HF.out.1, HF.out.2⟩
theorem rnew_no (b : Nat) (t : ByteArray) (wd : Int) (h : t.toList = [] ∨ wd < 1 ∨ 32 < wd) (w : World) :
    Calls Try.prog 10 #[.pointer (some ⟨b, 0, none⟩), .string t, .int .i64 wd] w fun e w' => e = .returned (.tuple #[.pointer none, .int .i64 20]) ∧ w' = w := by
  by_cases h0 : t.toList = []
  · have q := empty_true h0
    clear h0 h
    go_enter Try.func10, Try.ntmps10
    go_wp2
    go_ret2
    exact ⟨rfl, rfl⟩
  · have q := empty_false h0
    by_cases h1 : wd < 1
    · clear h0 h
      go_enter Try.func10, Try.ntmps10
      go_wp2
      go_ret2
      exact ⟨rfl, rfl⟩
    · have h2 : 32 < wd := by
        rcases h with h | h | h
        · exact absurd h h0
        · exact absurd h h1
        · exact h
      clear h0 h
      go_enter Try.func10, Try.ntmps10
      go_wp2
      go_ret2
      exact ⟨rfl, rfl⟩

theorem rrow_call {g m : Nat} {s : Pl} {r : Nat → Nat} {B : Nat} {w : World} {x b : Nat} {t : ByteArray} {wd : Nat} {q : Sq} {a : Option Addr} {c : Nat} (h : DocAt B w x b t wd q a c) (hp : RefAt B w b g s r) (hG : Good m s) (hq : SqOk wd q) (hv : Wf64 s) (i : Int) :
    Calls Try.prog 46 #[.pointer (some ⟨x, 0, none⟩), .int .i64 i] w fun e w' => ∃ ra rl rc, e = .returned (.tuple #[.slice ra rl rc, .int .i64 (rowE q i)]) ∧ RowJ w.heap.size w' ra rl rc (rowV wd s q i) ∧ Below w.heap.size w w' := by
  have c4 := h.c4
  have c5 := h.c5
  by_cases h0 : i < q.st
  · have e : rowE q i = 25 := by unfold rowE; rw [if_pos (.inl h0)]
    have e' : rowV wd s q i = [] := by unfold rowV; rw [if_neg (by rw [e]; decide)]
    rw [e, e']
    obtain ⟨st, es⟩ : ∃ st, q.st = st := ⟨_, rfl⟩
    rw [es] at c4 h0
    clear h hp hG hq e e' es hv
    go_enter Try.func46, Try.ntmps46
    go_wp2
    go_ret2
    exact ⟨_, _, _, rfl, RowJ.nil _ _, Below.refl _ _⟩
  · by_cases h1 : (q.n : Int) ≤ i
    · have e : rowE q i = 25 := by unfold rowE; rw [if_pos (.inr h1)]
      have e' : rowV wd s q i = [] := by unfold rowV; rw [if_neg (by rw [e]; decide)]
      rw [e, e']
      obtain ⟨st, es⟩ : ∃ st, q.st = st := ⟨_, rfl⟩
      rw [es] at c4 h0
      obtain ⟨n, en⟩ : ∃ n, q.n = n := ⟨_, rfl⟩
      rw [en] at c5 h1
      clear h hp hG hq e e' es en hv
      go_enter Try.func46, Try.ntmps46
      go_wp2
      go_ret2
      exact ⟨_, _, _, rfl, RowJ.nil _ _, Below.refl _ _⟩
    · obtain ⟨I, rfl⟩ : ∃ I : Nat, i = (I : Int) := ⟨i.toNat, by omega⟩
      have e : rowE q I = 0 := by unfold rowE; rw [if_neg (by omega)]
      have e' : rowV wd s q I = (List.range wd).map fun (k : Nat) => getV s (pageZ wd q.P q.st I) (((cellN wd q.st I : Nat) : Int) + (k : Int)) := by unfold rowV; rw [if_pos e, Int.toNat_natCast]
      rw [e, e']
      have i0 : q.st ≤ I := by omega
      have i1 : I < q.n := by omega
      have hf := hq.few
      have hidx := page_lt hq i0 i1
      have hcl := hidden_ fun k hk => cell_lt hq.w0 hq.w1 q.st I k hk
      have hlt := cell_lt hq.w0 hq.w1 q.st I 0 hq.w0
      have k40 := fun m' => rrows_call (h.drewN m') ⟨hq.w0, hq.w1⟩
      have c3 := h.c3
      have c2 := h.c2
      obtain ⟨y, rfl, hc⟩ := h.page hidx
      unfold cellN at hlt
      unfold pageZ cellN
      unfold cellN at hcl
      have r0 := hq.rr
      have r1 := rr_le wd
      obtain ⟨r', er⟩ : ∃ r' : Nat, 32 / wd = r' := ⟨_, rfl⟩
      simp only [er] at k40 r0 r1 hc hlt hidx hcl ⊢
      obtain ⟨Z, eZ⟩ : ∃ Z, q.P.getD ((I - q.st) / r') 0 = Z := ⟨_, rfl⟩
      rw [eZ] at hc
      simp only [eZ]
      obtain ⟨L, eL⟩ : ∃ L, q.P.length = L := ⟨_, rfl⟩
      rw [eL] at c3 hidx
      have w0 := hq.w0
      have w1 := hq.w1
      have H := hidden_ h
      have HP := hidden_ hp
      have HG := hidden_ hG
      obtain ⟨st, es⟩ : ∃ st, q.st = st := ⟨_, rfl⟩
      obtain ⟨n, en⟩ : ∃ n, q.n = n := ⟨_, rfl⟩
      rw [es] at c4 h0 i0 hc hlt hidx
      simp only [es] at hcl ⊢
      rw [en] at c5 h1 i1 hf
      obtain ⟨d, ed⟩ : ∃ d : Nat, I - st = d := ⟨_, rfl⟩
      have e0 : (I : Int) - (st : Int) = (d : Int) := by omega
      rw [ed] at hc hlt hidx
      simp only [ed] at hcl ⊢
      have e1 := tdivN d r'
      have e2 := tmodN d r'
      have hQ : d / r' ≤ 1000 := Nat.le_trans (Nat.div_le_self d r') (by omega)
      have hM : d % r' ≤ 32 := by have := Nat.mod_lt d (show 0 < r' by omega); omega
      obtain ⟨Q, eQ⟩ : ∃ Q, d / r' = Q := ⟨_, rfl⟩
      obtain ⟨M, eM⟩ : ∃ M, d % r' = M := ⟨_, rfl⟩
      rw [eQ] at e1 hc hQ hidx
      rw [eM] at e2 hlt hM
      simp only [eM] at hcl ⊢
      have x1 := wrap_nat (n := Q) (by omega)
      have x2 := wrap_nat (n := M) (by omega)
      obtain ⟨C, eC⟩ : ∃ C, M * wd = C := ⟨_, rfl⟩
      have e3 : (M : Int) * (wd : Int) = (C : Int) := by rw [← Int.natCast_mul, eC]
      rw [eC] at hlt
      simp only [eC] at hcl ⊢
      have x3 := wrap_nat (n := C) (by omega)
      have z' : ¬ ((r' : Int) = 0) := by omega
      have z : ((r' : Int) == 0) = false := by simp; omega
      have HF : Hid (∀ k : Nat, (Lit.int .i64 (getV s Z ((C : Int) + (k : Int)))).wf = true) := fun k => hv.getV _ _
      obtain ⟨F, eF⟩ : ∃ F : Nat → Int, (fun k : Nat => getV s Z ((C : Int) + (k : Int))) = F := ⟨_, rfl⟩
      have HE := hidden_ eF
      rw [eF]
      obtain ⟨it, hi, hz0, hz1, hz2⟩ := info_parts info2
      have HGa : Hid (gath F .i64 wd = ((List.range wd).map F).map (Value.int .i64)) := by unfold gath; rw [List.map_map]; exact (rfl : _ = List.map _ _)
      have HR := hidden_ er
      have HS := hidden_ es
      clear h hp hG hq e e' es en er eZ eL ed eQ eM eC eF hv
      go_enter Try.func46, Try.ntmps46
      go_wp2
      go_quiet (first | (go_at_call 40; exact Calls.quiet_of_same (k40 _)))
      obtain ⟨W1, eW1⟩ : ∃ W1, w.drewN nq = W1 := ⟨_, rfl⟩
      have H1 := H.out.drewN nq
      rw [eW1] at H1 ⊢
      have k40' := fun m' => rrows_call (H1.drewN m') ⟨w0, w1⟩
      simp only [HR.out] at k40'
      have c41 := H1.c4
      have c21 := H1.c2
      rw [HS.out] at c41
      have HW1 := hidden_ eW1
      clear H1 eW1
      go_wp2
      go_quiet (first | (go_at_call 40; exact Calls.quiet_of_same (k40' _)))
      go_wp2
      go_loopw [8, 9] (fun v i wr => ∃ k : Nat, k ≤ wd ∧ i = .int .i64 k ∧ wr.ownsRow w.heap.size 2 1 v k (gath F .i64 k) ∧ Below w.heap.size w wr) (fun _ i _ => wd - (intOf i).toNat)
      case atStart => exact ⟨0, Nat.zero_le _, rfl, World.ownsRow_nil _ _ _ _, by rw [← HW1.out]; exact ⟨rfl, rfl, rfl, Nat.le_refl _, fun _ _ => rfl⟩⟩
      case round =>
        obtain ⟨k, hk, rfl, ho, hb⟩ := hrel
        obtain ⟨va, vc, rfl⟩ := own_form ho
        have hd := H.out.below hb
        have d0 := hd.c0
        have d2 := hd.c2
        by_cases hlt' : k < wd
        · have hsz : w.heap.size ≤ wr.heap.size := hb.size
          have k37 := refGet_call (HP.out.below hb) HG.out.n1 HG.out.ow0 Z ((C : Int) + (k : Int))
          have hc' := hcl.out k hlt'
          rw [show getV s Z ((C : Int) + (k : Int)) = F k by rw [← HE.out]] at k37
          obtain ⟨V, eV⟩ : ∃ V, F k = V := ⟨_, rfl⟩
          rw [eV] at k37
          obtain ⟨E, eE⟩ : ∃ E, getE s Z ((C : Int) + (k : Int)) = E := ⟨_, rfl⟩
          rw [eE] at k37
          have HV := hidden_ eV
          clear eV eE hd
          go_wp2_with (first
            | (go_at_call 37; refine k37.mono ?_; rintro e W4 ⟨rfl, h4⟩; obtain rfl := h4.symm; clear k37)
            | (at_builtin; refine wpList_append_own _ rfl (.tmp 75) (.tmp 77) 39 rfl w.heap.size 2 it (.int .i64 0) 1 8 Try.underlying39 hi hz0 hz1 hz2 rfl (by decide) _ _ _ rfl (World.ownsRow.alloc (w := wr) ho _) ⟨_, 0, none⟩ 1 1 [.int .i64 V] rfl rfl (one_new _ _ _) (one_oneCell _ _) (by unfold maxLen; omega) (by omega) (by simp; omega) ?_; intro v' w3 ho' hg _))
          obtain ⟨hb3, ho3⟩ := append_step (F := F) hsz HV.out.symm hb ho ho' hg
          go_roundw
          case rel => exact ⟨k + 1, by omega, by go_num, ho3, hb3⟩
          case measure => simp [intOf]; omega
        · have e : k = wd := by omega
          subst e
          have HQ : Hid (RowJ w.heap.size wr va k vc ((List.range k).map F) ∧ Below w.heap.size w wr) := ⟨⟨by simp, by rw [← HGa.out]; exact ho, fun u hu => by obtain ⟨j, _, rfl⟩ := List.mem_map.1 hu; rw [← HE.out]; exact HF.out j⟩, hb⟩
          clear ho hb hd
          go_wp2
          go_ret2
          exact ⟨_, _, _, rfl, HQ.out.1, HQ.out.2⟩

theorem rend_call {g m : Nat} {s : Pl} {r : Nat → Nat} {B : Nat} {w : World} {x b : Nat} {t : ByteArray} {wd : Nat} {q : Sq} {a : Option Addr} {c : Nat} (h : DocAt B w x b t wd q a c) (hp : RefAt B w b g s r) (hG : Good m s) (hm : m ≤ 1000000) (hl : q.P.length ≤ 1000) :
    Calls Try.prog 19 #[.pointer (some ⟨x, 0, none⟩)] w fun e w' => e = .returned (.tuple #[]) ∧ DidR B w x b g t wd a (endS s q) (endQ q) w' := by
  have H := hidden_ h
  have HP := hidden_ hp
  have HG := hidden_ hG
  have hfin : Hid (endS s q = (q.P.take q.P.length).foldl drS s) := by rw [List.take_length]; exact (rfl : endS s q = _)
  obtain ⟨Fs, eF⟩ : ∃ Fs, endS s q = Fs := ⟨_, rfl⟩
  rw [eF] at hfin ⊢
  obtain ⟨L, eL⟩ : ∃ L, q.P.length = L := ⟨_, rfl⟩
  have HL := hidden_ eL
  rw [eL] at hl hfin
  clear h hp hG eF eL
  go_enter Try.func19, Try.ntmps19
  go_wp2
  go_loopw [2] (fun i wr => ∃ k : Nat, k ≤ L ∧ i = .int .i64 k ∧ RefAt B wr b g ((q.P.take k).foldl drS s) r ∧ Off B TQ w wr) (fun i _ => L - (intOf i).toNat)
  case atStart => exact ⟨0, Nat.zero_le _, rfl, HP.out, Off.refl _ _ _⟩
  case round =>
    obtain ⟨k, hk, rfl, hp, ho⟩ := hrel
    have hs := H.out.off ho rfl rfl
    have c0 := hs.c0
    have c3 := hs.c3
    rw [HL.out] at c3
    by_cases hlt : k < L
    · have hl' : k < q.P.length := by rw [HL.out]; exact hlt
      obtain ⟨y, rfl, hc⟩ := hs.page hl'
      have hg := HG.out.drops (q.P.take k)
      have k39 := refDrop_call (hp.drewN 1) hg hm (q.P.getD k 0)
      rw [← fold_snoc drS s hl'] at k39
      obtain ⟨Z, eZ⟩ : ∃ Z, q.P.getD k 0 = Z := ⟨_, rfl⟩
      rw [eZ] at k39 hc
      obtain ⟨E, eE⟩ : ∃ E, shE ((q.P.take k).foldl drS s) Z = E := ⟨_, rfl⟩
      rw [eE] at k39
      have HO := hidden_ (And.intro hs ho)
      have HZ := hidden_ eZ
      clear hp hs ho hg eZ eE hl'
      go_wp2
      go_region_held3 (fun W => W.cell? ⟨x, 0, none⟩ = some (.pointer (some ⟨b, 0, none⟩)) ∧ W.cell? ⟨x, 3, none⟩ = some (.slice (some y) L c) ∧ W.cell? (y.add k) = some (.int .i64 Z)) (first | assumption | (exact ⟨c0, c3, hc⟩) | exact d05) (first
        | (go_at_call 39; refine k39.mono ?_; rintro e W3 ⟨rfl, hp3, ho3⟩; have ho4 : Off B TQ wr W3 := ⟨ho3.os, ho3.tape, ho3.output, ho3.size, ho3.block⟩; have hs3 := HO.out.1.off ho4 rfl rfl; have hd5 := hs3.c3; rw [HL.out] at hd5; have d05 := And.intro hs3.c0 (And.intro hd5 ((hs3.pg.cell y rfl k (by rw [HL.out]; exact hlt)).trans (by rw [HZ.out]))); have HQ := hidden_ (And.intro hp3 (HO.out.2.trans ho4)); clear hp3 ho3 ho4 hs3 hd5 k39))
      go_wp2
      go_roundw
      case rel => exact ⟨k + 1, by omega, by go_num, HQ.out.1, HQ.out.2⟩
      case measure => simp [intOf]; omega
    · have e : k = L := by omega
      subst e
      rw [← hfin.out] at hp
      have c5 := hs.c5
      obtain ⟨_, f3, hs1, os1⟩ := hs.newP rfl [] (Reads.nil _ wr) (a' := none) (c' := 0) (fun k hk => by obtain ⟨_, h, _⟩ := hk; cases h) (Nat.le_refl _) (by decide) (fun _ => rfl)
      have c51 := hs1.c5
      have c41 := hs1.c4
      have f4 := hs1.top.open_ 4
      obtain ⟨hs2, os2⟩ := hs1.setSt q.n
      have hop := OffS.trans os1 os2 (fun _ z => .inl z)
      have hp2 := hp.of_blocks (hop.row hp.top rfl (hp.top.ne hs.top (by decide))) (hop.row hp.row rfl (hp.row.ne hs.top (by decide))) (fun i hi hu => hop.row (hp.cr i hi hu).1 rfl ((hp.cr i hi hu).1.ne hs.top (by decide)))
      have HF := hidden_ (And.intro hp2 (And.intro hs2 (OffS.trans ((ho.mono TQ_TR').toS (fun k => k = x)) (hop.mono (T' := TR) (fun _ _ => rfl) (fun _ z => z)) (fun _ z => .inl z))))
      obtain ⟨st, es⟩ : ∃ st, q.st = st := ⟨_, rfl⟩
      obtain ⟨n, en⟩ : ∃ n, q.n = n := ⟨_, rfl⟩
      simp only [List.length_nil] at HF c51 c41 f4
      rw [en] at c5
      simp only [en, es] at HF c51 c41
      clear hp hs ho hs1 hs2 os1 os2 hop hp2 es
      obtain ⟨W4, eW⟩ : ∃ W4, wr.setCell ⟨x, 3, none⟩ (.slice none 0 0) = W4 := ⟨_, rfl⟩
      rw [eW] at c51 c41 f4 HF
      obtain ⟨W5, eW5⟩ : ∃ W5, W4.setCell ⟨x, 4, none⟩ (.int .i64 n) = W5 := ⟨_, rfl⟩
      rw [eW5] at HF
      have HN := hidden_ en
      clear en
      go_wp2
      go_end0
      exact ⟨rfl, none, 0, r, HF.out.1, (by have := HF.out.2.1; rw [← HN.out] at this; exact this), (fun k hk => by obtain ⟨_, h, _⟩ := hk; cases h), HF.out.2.2⟩

end Go.Proofs.Ytgjjeggopeppfaa

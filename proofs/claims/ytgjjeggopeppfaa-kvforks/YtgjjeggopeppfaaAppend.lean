/- The program appends a row to a sequence: the contract. -/
import Derived.Test.YtgjjeggopeppfaaRows
import Derived.Test.YtgjjeggopeppfaaPages
import Derived.Test.YtgjjeggopeppfaaView
import Derived.Test.YtgjjeggopeppfaaOwn
import Derived.Test.YtgjjeggopeppfaaLeast
import Derived.Test.YtgjjeggopeppfaaLays
import Derived.Test.YtgjjeggopeppfaaTurns
import Derived.Test.YtgjjeggopeppfaaGoods
import Derived.Test.YtgjjeggopeppfaaSeqs
import Derived.Test.YtgjjeggopeppfaaSeqAt
import Derived.Test.YtgjjeggopeppfaaSeqRd
import Derived.Test.YtgjjeggopeppfaaSeqNeed
import Derived.Test.YtgjjeggopeppfaaReadsP
import Derived.Test.YtgjjeggopeppfaaReadsQ
import Derived.Test.YtgjjeggopeppfaaRoom1
import Derived.Test.YtgjjeggopeppfaaCopyLast
import Derived.Test.YtgjjeggopeppfaaRoom
import Derived.WalkKit
import Derived.ProofKit
import Derived.OpenShut
import Derived.Below
import Derived.WalkLawsBesides
import Derived.Deep.QuietTactic
import Derived.BigQuiet
import Derived.Laws.OwnMore
namespace Go.Proofs.Ytgjjeggopeppfaa
open Go.ChangeShapes Go.WideShapes Go.ChangeAt Go.RowKit
set_option linter.unusedVariables false
set_option linter.unusedSimpArgs false

/-- a row of numbers of 64 bits of a call's own -/
structure RowJ (B : Nat) (w : World) (a : Option Addr) (l c : Nat) (zs : List Int) : Prop where
  len : zs.length = l
  own : w.ownsRow B 2 1 (.slice a l c) l (zs.map (Value.int .i64))
  wf : ∀ z ∈ zs, (Lit.int .i64 z).wf = true
theorem RowJ.nil (B : Nat) (w : World) : RowJ B w none 0 0 [] := ⟨rfl, World.ownsRow_nil _ _ _ _, by simp⟩
theorem RowJ.reads {B : Nat} {w : World} {a : Option Addr} {l c : Nat} {zs : List Int} (h : RowJ B w a l c zs) : Reads .i64 w a l zs :=
  own_reads_at h.own h.len h.wf (fun j hj => ints_at _ j (by rw [h.len]; exact hj))
theorem RowJ.off {B B' : Nat} {T : TypeId → Bool} {w w' : World} {a : Option Addr} {l c : Nat} {zs : List Int} (h : RowJ B w a l c zs) (o : Off B' T w w') (hT : T 2 = false) : RowJ B w' a l c zs := ⟨h.len, own_off h.own o hT, h.wf⟩
theorem RowJ.below {B : Nat} {w w' : World} {a : Option Addr} {l c : Nat} {zs : List Int} (h : RowJ B w a l c zs) (o : Below w.heap.size w w') : RowJ B w' a l c zs := h.off (T := fun _ => false) (B' := 0) (Off.of_below o) rfl
theorem RowJ.mono {B B' : Nat} {w : World} {a : Option Addr} {l c : Nat} {zs : List Int} (h : RowJ B w a l c zs) (hB : B' ≤ B) : RowJ B' w a l c zs := by
  refine ⟨h.len, ⟨h.own.1, ?_⟩, h.wf⟩
  rcases h.own.2 with h1 | ⟨g, cap, cur, h1, h2, h3⟩
  · exact .inl h1
  · exact .inr ⟨g, cap, cur, h1, Nat.le_trans hB h2, h3⟩
theorem RowJ.block {B : Nat} {w : World} {a : Option Addr} {l c : Nat} {zs : List Int} (h : RowJ B w a l c zs) {k : Nat} (hk : blkOf a k) : B ≤ k ∧ ∃ m, Row 2 w k m := by
  obtain ⟨y, rfl, rfl⟩ := hk
  rcases h.own.2 with ⟨h1, _⟩ | ⟨g, cap, cur, h1, h2, h3, h4⟩
  · cases h1
  · simp only [Value.slice.injEq, Option.some.injEq] at h1
    obtain ⟨rfl, _, _⟩ := h1
    exact ⟨h2, _, cur, h3, rfl⟩

/-- behind an act of a sequence: the pool and the sequence are these; only the pool, the sequence's struct and its row were written -/
def Did (B : Nat) (w : World) (x b g : Nat) (t : ByteArray) (wd : Nat) (a : Option Addr) (s : Pl) (q : Sq) (w' : World) : Prop :=
  ∃ a' c', PoolAt B w' b g s ∧ SeqAt B w' x b t wd q a' c' ∧ (∀ k, blkOf a' k → blkOf a k ∨ w.heap.size ≤ k) ∧ OffS B TP (Own x a) w w'

theorem append_call {g m : Nat} {s : Pl} {B : Nat} {w : World} {x b : Nat} {t : ByteArray} {wd : Nat} {q : Sq} {a : Option Addr} {c : Nat} (h : SeqAt B w x b t wd q a c) (hp : PoolAt B w b g s) (hG : Good m s) (hm : 1 ≤ m ∧ m ≤ 1000000) (hq : SqOk wd q) (hn : q.n < 1000) {B' : Nat} (ra : Option Addr) (rl rc : Nat) (zs : List Int) (hr : RowJ B' w ra rl rc zs) :
    Calls Try.prog 12 #[.pointer (some ⟨x, 0, none⟩), .slice ra rl rc] w fun e w' => e = .returned (.int .i64 (appE wd t s q zs)) ∧ Did B w x b g t wd a (appS wd t s q zs) (appQ wd t s q zs) w' := by
  have c2 := h.c2
  have hlen := hr.len
  have hmx := hr.reads.max
  have w1 := hq.w1
  by_cases hw : rl = wd
  · subst hw
    have k31 := makeRoom_call h hp hG hm hq
    have hE : appE rl t s q zs = roomE rl t s q := by unfold appE; rw [if_neg (by omega)]
    unfold appS appQ
    rw [hE]
    by_cases h0 : roomE rl t s q = 0
    · rw [if_pos h0, if_pos h0]
      obtain ⟨l1, l2⟩ := room_lt hq h0
      have hr0 := hq.rr
      have hlt : (q.n - q.st) / (32 / rl) < (roomP rl t s q).length := by rw [Nat.div_lt_iff_lt_mul (by omega)]; exact l1
      have hGr := hG.roomS (wd := rl) hm.1 t q
      have hcl := fun k hk => cell_lt hq.w0 hq.w1 q.st q.n k hk
      have k32 : Hid (∀ W a' c', SeqAt B W x b t rl ⟨roomP rl t s q, q.st, q.n⟩ a' c' → _) := fun W a' c' hW => place_call13 hW ⟨hq.w0, hq.w1⟩ q.n hq.st (by omega) hlt
      simp only at k32
      rw [h0] at k31 ⊢
      obtain ⟨S1, eS1⟩ : ∃ S1, roomS rl t s q = S1 := ⟨_, rfl⟩
      obtain ⟨P1, eP1⟩ : ∃ P1, roomP rl t s q = P1 := ⟨_, rfl⟩
      rw [eS1] at hGr
      simp only [eS1, eP1] at k31 k32 ⊢
      obtain ⟨Z, eZ⟩ : ∃ Z, pageZ rl P1 q.st q.n = Z := ⟨_, rfl⟩
      obtain ⟨C, eC⟩ : ∃ C, cellN rl q.st q.n = C := ⟨_, rfl⟩
      simp only [eZ, eC] at k32 hcl ⊢
      have H := hidden_ h
      have HR := hidden_ hr
      have HG := hidden_ hGr
      have HC := hidden_ hcl
      obtain ⟨n, en⟩ : ∃ n, q.n = n := ⟨_, rfl⟩
      obtain ⟨st, es⟩ : ∃ st, q.st = st := ⟨_, rfl⟩
      simp only [en, es] at k31 k32 hn ⊢
      obtain ⟨D, eD⟩ : ∃ D, rowTo S1 Z (C : Int) zs rl = D := ⟨_, rfl⟩
      rw [eD]
      have HD := hidden_ eD
      clear h hp hG hm hq hE hr h0 l1 l2 hr0 hlt hGr hcl eS1 eP1 eZ eC en es eD
      go_enter Try.func12, Try.ntmps12
      go_wp2_with (first
        | (go_at_call 31; refine k31.mono ?_; rintro e W1 ⟨rfl, a', c', hp1, hs1, hb1, ho1⟩; have kk := k32.out W1 a' c' hs1; have c41 := hs1.c4; simp only at c41; have H1 := hidden_ (And.intro hp1 (And.intro hs1 (And.intro hb1 ho1))); clear hp1 hs1 hb1 ho1 k31)
        | (go_at_call 32; refine kk.mono ?_; rintro e W2 ⟨rfl, m2, h2⟩; have HW := hidden_ h2; clear h2 kk))
      go_loopw [33] (fun i wr => ∃ k : Nat, k ≤ rl ∧ i = .int .i64 k ∧ PoolAt B wr b g (rowTo S1 Z (C : Int) zs k) ∧ SeqAt B wr x b t rl ⟨P1, st, n⟩ a' c' ∧ RowJ B' wr ra rl rc zs ∧ OffS B TP (Own x a) w wr) (fun i _ => rl - (intOf i).toNat)
      case atStart =>
        refine ⟨0, Nat.zero_le _, rfl, ?_, ?_, ?_, ?_⟩
        · rw [HW.out]; exact H1.out.1.drewN m2
        · rw [HW.out]; exact H1.out.2.1.drewN m2
        · rw [HW.out]; exact (HR.out.off (OffS.off H1.out.2.2.2 H.out) rfl).below (by exact ⟨rfl, rfl, rfl, Nat.le_refl _, fun _ _ => rfl⟩)
        · rw [HW.out]; exact H1.out.2.2.2.drewN m2
      case round =>
        obtain ⟨k, hk, rfl, hp, hs, hrj, ho⟩ := hrel
        have c0 := hs.c0
        by_cases hlt : k < rl
        · obtain ⟨y, rfl⟩ := hrj.reads.some_ (by omega)
          have cv := hrj.reads.cell y rfl k hlt
          obtain ⟨V, eV⟩ : ∃ V, zs.getD k 0 = V := ⟨_, rfl⟩
          rw [eV] at cv
          have k33 := put_call hp (HG.out.rowTo Z C zs k) Z ((C : Int) + (k : Int)) V
          have e : putS (rowTo S1 Z C zs k) Z ((C : Int) + (k : Int)) V = rowTo S1 Z C zs (k + 1) := by rw [← eV]; rfl
          rw [e] at k33
          have hc := HC.out k hlt
          obtain ⟨E, eE⟩ : ∃ E, getE (rowTo S1 Z C zs k) Z ((C : Int) + (k : Int)) = E := ⟨_, rfl⟩
          rw [eE] at k33
          have HO := hidden_ (And.intro hs (And.intro hrj ho))
          clear hp hs hrj ho e eV eE
          go_wp2_with (first
            | (go_at_call 33; refine k33.mono ?_; rintro e W3 ⟨rfl, hp3, ho3⟩; have HP := hidden_ (And.intro hp3 ho3); clear hp3 ho3 k33))
          go_roundw
          case rel => exact ⟨k + 1, by omega, by go_num, HP.out.1, HO.out.1.off HP.out.2 rfl rfl, HO.out.2.1.off HP.out.2 rfl, OffS.trans HO.out.2.2 (HP.out.2.toS (Own x a)) (fun _ z => .inl z)⟩
          case measure => simp [intOf]; omega
        · have e : k = rl := by omega
          subst e
          have c4 := hs.c4
          simp only at c4
          have f4 := hs.top.open_ 4
          obtain ⟨hs', os'⟩ := hs.setN (n + 1)
          rw [HD.out] at hp
          have hp' : PoolAt B (wr.setCell ⟨x, 4, none⟩ (.int .i64 (n + 1 : Nat))) b g D := hp.of_blocks (os'.row hp.top rfl (hp.top.ne hs.top (by decide))) (os'.row hp.row rfl (hp.row.ne hs.top (by decide)))
          have HF := hidden_ (And.intro hp' (And.intro hs' (OffS.trans ho (os'.mono (T' := TP) (S' := Own x a) (fun _ _ => rfl) (fun _ z => .inl z)) (fun _ z => .inl z))))
          clear hs hp ho hrj hs' os' hp'
          obtain ⟨W4, eW⟩ : ∃ W4, wr.setCell ⟨x, 4, none⟩ (.int .i64 (n + 1 : Nat)) = W4 := ⟨_, rfl⟩
          rw [eW] at HF
          have eW' : wr.setCell ⟨x, 4, none⟩ (.int .i64 ((n : Int) + 1)) = W4 := eW
          clear eW
          go_wp2
          go_ret
          exact ⟨rfl, _, _, HF.out.1, HF.out.2.1, H1.out.2.2.1, HF.out.2.2⟩
    · rw [if_neg h0, if_neg h0]
      have eS : roomS rl t s q = s := by unfold roomS; rw [if_neg (fun z => h0 (by unfold roomE; rw [if_pos z.1]; exact z.2))]
      have eP : roomP rl t s q = q.P := by unfold roomP; rw [if_neg (fun z => h0 (by unfold roomE; rw [if_pos z.1]; exact z.2))]
      simp only [eS, eP] at k31
      obtain ⟨E, eE⟩ : ∃ E, roomE rl t s q = E := ⟨_, rfl⟩
      rw [eE] at h0 k31 ⊢
      have h0' : (E == 0) = false := by simp [h0]
      have h0'' : (E != 0) = true := by simp [h0]
      clear h hp hG hm hq hE hr eS eP eE
      go_enter Try.func12, Try.ntmps12
      go_wp2_with (first
        | (go_at_call 31; refine k31.mono ?_; rintro e W1 ⟨rfl, a', c', hp1, hs1, hb1, ho1⟩; have H1 := hidden_ (And.intro hp1 (And.intro hs1 (And.intro hb1 ho1))); clear hp1 hs1 hb1 ho1 k31))
      go_ret
      exact ⟨rfl, a', c', H1.out⟩
  · have hE : appE wd t s q zs = 21 := by unfold appE; rw [if_pos (by omega)]
    unfold appS appQ
    rw [hE, if_neg (by decide), if_neg (by decide)]
    have HF := hidden_ (And.intro h hp)
    have hw' : ((rl : Int) == (wd : Int)) = false := by simp; omega
    have hw'' : ((rl : Int) != (wd : Int)) = true := by simp; omega
    clear h hp hG hm hq hr hE hlen
    go_enter Try.func12, Try.ntmps12
    go_wp2
    go_ret
    exact ⟨rfl, _, _, HF.out.2, HF.out.1, fun k hk => .inl hk, OffS.refl _ _ _ _⟩

end Go.Proofs.Ytgjjeggopeppfaa

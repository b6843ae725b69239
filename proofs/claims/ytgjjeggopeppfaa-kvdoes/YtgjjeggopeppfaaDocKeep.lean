/- The document lets go of pages ahead: the contract of its Keep. -/
import Derived.Test.YtgjjeggopeppfaaRows
import Derived.Test.YtgjjeggopeppfaaPages
import Derived.Test.YtgjjeggopeppfaaBasis
import Derived.Test.YtgjjeggopeppfaaLeast
import Derived.Test.YtgjjeggopeppfaaLays
import Derived.Test.YtgjjeggopeppfaaTurns
import Derived.Test.YtgjjeggopeppfaaGoods
import Derived.Test.YtgjjeggopeppfaaRefA
import Derived.Test.YtgjjeggopeppfaaRefTk
import Derived.Test.YtgjjeggopeppfaaRefTurns
import Derived.Test.YtgjjeggopeppfaaLies
import Derived.Test.YtgjjeggopeppfaaSeqP
import Derived.Test.YtgjjeggopeppfaaSeqRN
import Derived.Test.YtgjjeggopeppfaaReadsB
import Derived.Test.YtgjjeggopeppfaaForks
import Derived.Test.YtgjjeggopeppfaaRooms
import Derived.Test.YtgjjeggopeppfaaDocAt
import Derived.Test.YtgjjeggopeppfaaDocRd
import Derived.WalkKit
import Derived.ProofKit
import Derived.OpenShut
import Derived.Below
import Derived.WalkLawsBesides
import Derived.Deep.QuietTactic
import Derived.BigQuiet
import Derived.Deep.RegionHeld3
import Derived.Deep.RegionWith
namespace Go.Proofs.Ytgjjeggopeppfaa
open Go.ChangeShapes Go.WideShapes Go.ChangeAt Go.RowKit
set_option linter.unusedVariables false
set_option linter.unusedSimpArgs false

theorem add_nought' (y : Addr) : y.add 0 = y := by simp [Addr.add]
/-- how long the list of pages is, as the struct tells it -/
def lenAt (w : World) (x : Nat) : Nat := match w.cell? ⟨x, 3, none⟩ with | some (.slice _ n _) => n | _ => 0
theorem DocAt.lenAt {B : Nat} {w : World} {x b : Nat} {t : ByteArray} {wd : Nat} {q : Sq} {a : Option Addr} {c : Nat} (h : DocAt B w x b t wd q a c) : lenAt w x = q.P.length := by unfold Ytgjjeggopeppfaa.lenAt; rw [h.c3]

/-- the first page is left out -/
theorem doc_tail {B : Nat} {w : World} {x b : Nat} {t : ByteArray} {wd : Nat} {q : Sq} {a : Option Addr} {c : Nat} (h : DocAt B w x b t wd q a c) (y : Addr) (c' L1 : Nat) (hl : q.P.length = L1 + 1) (ha : a = some y) (hc : c = c' := by rfl) :
    ∃ A4, (if c' = 1 then some y else some (y.add 1)) = A4 ∧ (∀ k, blkOf A4 k → blkOf (some y) k) ∧ w.cell? ⟨x, 3, none⟩ = some (.slice a q.P.length c) ∧ w.frozen? ⟨x, 3, none⟩ = false ∧ DocAt B (w.setCell ⟨x, 3, none⟩ (.slice A4 L1 (c' - 1))) x b t wd ⟨q.P.drop 1, q.st, q.n⟩ A4 (c' - 1) ∧ OffS B (fun _ => false) (fun k => k = x) w (w.setCell ⟨x, 3, none⟩ (.slice A4 L1 (c' - 1))) := by
  subst ha hc
  have hcap := h.cap
  have hcm := h.capm
  have hle : (q.P.drop 1).length = L1 := by rw [List.length_drop, hl]; rfl
  have hb : ∀ k, blkOf (if c = 1 then some y else some (y.add 1)) k → blkOf (some y) k := fun k hk => by
    obtain ⟨z, ez, rfl⟩ := hk
    by_cases e : c = 1
    · rw [if_pos e] at ez; obtain rfl := Option.some.inj ez; exact ⟨y, rfl, rfl⟩
    · rw [if_neg e] at ez; obtain rfl := Option.some.inj ez; exact ⟨y, rfl, (add_block y 1).symm⟩
  have hr : Reads .i64 w (if c = 1 then some y else some (y.add 1)) (q.P.drop 1).length (q.P.drop 1) := by
    by_cases e : c = 1
    · rw [if_pos e]
      have h0 : (q.P.drop 1).length = 0 := by omega
      have e0 : q.P.drop 1 = [] := List.eq_nil_of_length_eq_zero h0
      rw [e0]
      exact ⟨rfl, by decide, (fun i => by simpa using wf_nought _), (fun hh => by cases hh), fun z hz i hi => by cases hi⟩
    · rw [if_neg e]
      have := h.pg.cut 1 L1 (by omega)
      rw [hle, show q.P.drop 1 = (q.P.drop 1).take L1 by rw [List.take_of_length_le (by omega)]]
      exact this
  obtain ⟨n1, n2, n3, n4⟩ := h.newP (a' := if c = 1 then some y else some (y.add 1)) (c' := c - 1) rfl (q.P.drop 1) hr (fun k hk => h.ty k (hb k hk)) (by omega) (by omega) (fun hh => by by_cases e : c = 1 <;> simp [e] at hh)
  rw [hle] at n3 n4
  exact ⟨_, rfl, hb, n1, n2, n3, n4⟩

set_option maxHeartbeats 4000000 in
theorem rkeep_pos {g m : Nat} {s : Pl} {r0 : Nat → Nat} {B : Nat} {w : World} {x b : Nat} {t : ByteArray} {wd : Nat} {q : Sq} {a : Option Addr} {c : Nat} (h : DocAt B w x b t wd q a c) (hp : RefAt B w b g s r0) (hG : Good m s) (hm : m ≤ 1000000) (hq : SqOk wd q) (k : Int) (hk : k ≤ 9223372036854775807) (h0 : 0 < k) :
    Calls Try.prog 17 #[.pointer (some ⟨x, 0, none⟩), .int .i64 k] w fun e w' => e = .returned (.tuple #[]) ∧ DidR B w x b g t wd a (keepS wd s q k) (keepQ wd q k) w' := by
  have H := hidden_ h
  have HG := hidden_ hG
  have HP := hidden_ hp
  have hgo := hidden_ (fun j => keep_go hq k j)
  obtain ⟨g1, g2⟩ := keepN_le hq k
  have hl : q.P.length ≤ 1000 := Nat.le_trans hq.len hq.few
  have hf := hq.few
  have hst := hq.st
  have r1 := rr_le wd
  have r0' := hq.rr
  have eS : keepS wd s q k = (q.P.take (keepN wd q k)).foldl drS s := rfl
  have eQ : keepQ wd q k = ⟨q.P.drop (keepN wd q k), q.st + keepN wd q k * (32 / wd), q.n⟩ := rfl
  rw [eS, eQ]
  obtain ⟨G, eG⟩ : ∃ G, keepN wd q k = G := ⟨_, rfl⟩
  simp only [eG] at g1 g2 hgo ⊢
  have k40 : Hid (∀ W q' a' c', DocAt B W x b t wd q' a' c' → Calls Try.prog 40 #[.pointer (some ⟨x, 0, none⟩)] W fun e w' => e = .returned (.int .i64 ((32 / wd : Nat) : Int)) ∧ w' = W) := fun W q' a' c' hW => rrows_call hW ⟨hq.w0, hq.w1⟩
  obtain ⟨r, er⟩ : ∃ r : Nat, 32 / wd = r := ⟨_, rfl⟩
  simp only [er] at g1 hgo r1 k40 r0' ⊢
  have hmx : Hid (∀ j, j ≤ G → q.st + j * r ≤ q.n) := fun j hj => by
    have := Nat.mul_le_mul_right r hj
    omega
  obtain ⟨D, eD⟩ : ∃ D, (q.P.take G).foldl drS s = D := ⟨_, rfl⟩
  rw [eD]
  have HD := hidden_ eD
  have eM0 : (q.n : Int) - max k 0 = (q.n : Int) - k := by omega
  simp only [eM0] at hgo
  obtain ⟨L, eL⟩ : ∃ L, q.P.length = L := ⟨_, rfl⟩
  have HL := hidden_ eL
  rw [eL] at hl g2
  obtain ⟨n, en⟩ : ∃ n, q.n = n := ⟨_, rfl⟩
  rw [en] at hf hst
  simp only [en] at hgo hmx ⊢
  have HN := hidden_ en
  clear h hp hG hq eS eQ eG er eD g1 eM0 eL en
  obtain ⟨M, eM⟩ : ∃ M, (n : Int) - k = M := ⟨_, rfl⟩
  simp only [eM] at hgo
  have m0 : -9223372036854775807 ≤ M := by omega
  have m1 : M ≤ n := by omega
  go_enter Try.func17, Try.ntmps17
  go_wp2
  go_loopw [] (fun wr => ∃ j : Nat, j ≤ G ∧ lenAt wr x = L - j ∧ RefAt B wr b g ((q.P.take j).foldl drS s) r0 ∧ (∃ a' c', DocAt B wr x b t wd ⟨q.P.drop j, q.st + j * r, q.n⟩ a' c' ∧ (∀ k, blkOf a' k → blkOf a k)) ∧ OffS B TR (fun k => k = x) w wr) (fun wr => lenAt wr x)
  case atStart => exact ⟨0, Nat.zero_le _, by rw [H.out.lenAt, HL.out]; rfl, HP.out, ⟨a, c, by simpa using H.out, fun _ z => z⟩, OffS.refl _ _ _ _⟩
  case round =>
    obtain ⟨j, hj, hla, hp, ⟨a', c', hs, hba⟩, ho⟩ := hrel
    have c3 := hs.c3
    have c4 := hs.c4
    have c5 := hs.c5
    have c0 := hs.c0
    have hF := hmx.out j hj
    have hgj := hgo.out j
    have hF1 := fun (h : j < G) => hmx.out (j + 1) h
    have e1 : q.st + (j + 1) * r = q.st + j * r + r := by rw [Nat.add_mul, Nat.one_mul, Nat.add_assoc]
    have eF' : (q.st : Int) + (j : Int) * (r : Int) = ((q.st + j * r : Nat) : Int) := by rw [Int.natCast_add, Int.natCast_mul]
    rw [eF'] at hgj
    simp only [e1] at hF1
    have hdl : (q.P.drop j).length = L - j := by rw [List.length_drop, HL.out]
    simp only [hdl, HN.out] at c3 c5
    obtain ⟨F, eF⟩ : ∃ F, q.st + j * r = F := ⟨_, rfl⟩
    simp only [eF] at c4 hF hF1 hs hgj
    have HE := hidden_ (e1.trans (by rw [eF]))
    have HF0 := hidden_ eF
    have q40 := hidden_ fun m' => k40.out (wr.drewN m') _ _ _ (hs.drewN m')
    clear e1 eF eF'
    by_cases hlt : j < G
    · have hle : (F : Int) + (r : Int) ≤ M := hgj.1 hlt
      have hF2 := hF1 hlt
      have hjl : 0 < (q.P.drop j).length := by rw [hdl]; omega
      obtain ⟨y, rfl, hc⟩ := hs.page hjl
      have hz0 : (q.P.drop j).getD 0 0 = q.P.getD j 0 := by simp [List.getD]
      simp only [hz0] at hc
      rw [add_nought] at hc
      have hc' : wr.cell? (y.add 0) = some (.int .i64 (q.P.getD j 0)) := by rw [add_nought]; exact hc
      have hjL : j < q.P.length := by rw [HL.out]; omega
      have k39 := fun m' => refDrop_call (hp.drewN m') (HG.out.drops (q.P.take j)) hm (q.P.getD j 0)
      simp only [← fold_snoc drS s hjL] at k39
      obtain ⟨Z, eZ⟩ : ∃ Z, q.P.getD j 0 = Z := ⟨_, rfl⟩
      rw [eZ] at hc hc'
      simp only [eZ] at k39
      obtain ⟨E, eE⟩ : ∃ E, shE ((q.P.take j).foldl drS s) Z = E := ⟨_, rfl⟩
      simp only [eE] at k39
      have HO := hidden_ (And.intro hs (And.intro ho (And.intro hba hz0)))
      have HZ := hidden_ eZ
      obtain ⟨LJ, eLJ⟩ : ∃ LJ, L - j = LJ := ⟨_, rfl⟩
      have hLJ : 0 < LJ := by omega
      have hLJ' : LJ ≤ 1000 := by omega
      have hFn : (F : Int) + (r : Int) ≤ (n : Int) := by omega
      have hwF : IntKind.i64.wrap ((F : Int) + (r : Int)) = (F : Int) + (r : Int) := by simp [IntKind.wrap, IntKind.signed, IntKind.bits]; omega
      have hFl : (F : Int) + (r : Int) - 1 < M := by omega
      have hcapL := hs.cap
      have hcapm := hs.capm
      rw [hdl, eLJ] at hcapL
      rw [eLJ] at c3 hla hdl
      have HLJ := hidden_ (And.intro eLJ hdl)
      clear hp hs ho eZ eE hjl hgj hF1 hjL hz0 hba eLJ hdl
      go_wp2
      go_quiet (first | (go_at_call 40; exact Calls.quiet_of_same (q40.out _)))
      go_wp2
      replace k39 := k39 (nq + 1)
      go_region_held3 (fun W => W.cell? ⟨x, 0, none⟩ = some (.pointer (some ⟨b, 0, none⟩)) ∧ W.cell? ⟨x, 3, none⟩ = some (.slice (some y) LJ c') ∧ W.cell? y = some (.int .i64 Z)) (first | assumption | (exact ⟨c0, c3, hc⟩) | exact d05) (first
        | (go_at_call 39; refine k39.mono ?_; rintro e W3 ⟨rfl, hp3, ho3⟩; have ho4 : Off B TQ wr W3 := ⟨ho3.os, ho3.tape, ho3.output, ho3.size, ho3.block⟩; have hs3 := HO.out.1.off ho4 rfl rfl; have hd5 := hs3.c3; simp only [HLJ.out.2] at hd5; have hy3 := hs3.pg.cell y rfl 0 (by simp only [HLJ.out.2]; exact hLJ); rw [add_nought, HO.out.2.2.2, HZ.out] at hy3; have d05 := And.intro hs3.c0 (And.intro hd5 hy3); have HT := hidden_ (And.intro hp3 (And.intro hs3 (OffS.trans HO.out.2.1 ((ho4.mono TQ_TR').toS (fun k => k = x)) (fun _ z => .inl z)))); clear hp3 ho3 ho4 hs3 hd5 hy3 k39))
      obtain ⟨p3, s3, o3⟩ := HT.out
      have e3 := s3.c3
      simp only [HLJ.out.2] at e3
      obtain ⟨L1, eL1⟩ : ∃ L1, LJ = L1 + 1 := ⟨LJ - 1, by omega⟩
      obtain ⟨A4, hA4, hA4b, -, f3, s4, o4⟩ := doc_tail s3 y c' L1 (by simp only [HLJ.out.2]; exact eL1) rfl
      have p4 := p3.of_blocks (o4.row p3.top rfl (p3.top.ne s3.top (by decide))) (o4.row p3.row rfl (p3.row.ne s3.top (by decide))) (fun i hi hu => o4.row (p3.cr i hi hu).1 rfl ((p3.cr i hi hu).1.ne s3.top (by decide)))
      have o34 := OffS.trans o3 (o4.mono (T' := TR) (S' := fun k => k = x) (fun _ _ => rfl) (fun _ z => z)) (fun _ z => .inl z)
      have hA4' : (if c' = 1 then some y else some (⟨y.block, y.off + 1, none⟩ : Addr)) = A4 := hA4
      have f4 := s4.top.open_ 4
      have e4 := s4.c4
      simp only at e4
      have k40' := hidden_ fun m' => k40.out ((W3.setCell ⟨x, 3, none⟩ (.slice A4 L1 (c' - 1))).drewN m') _ _ _ (s4.drewN m')
      have s4' := s4.drewN 1
      obtain ⟨s5, o5⟩ := s4'.setSt (F + r)
      have p4' := p4.drewN 1
      have p5 := p4'.of_blocks (o5.row p4'.top rfl (p4'.top.ne s4'.top (by decide))) (o5.row p4'.row rfl (p4'.row.ne s4'.top (by decide))) (fun i hi hu => o5.row (p4'.cr i hi hu).1 rfl ((p4'.cr i hi hu).1.ne s4'.top (by decide)))
      have HF := hidden_ (And.intro p5 (And.intro s5 (OffS.trans (o34.drewN 1) (o5.mono (T' := TR) (S' := fun k => k = x) (fun _ _ => rfl) (fun _ z => z)) (fun _ z => .inl z))))
      rw [Int.natCast_add] at HF
      subst eL1
      clear p3 s3 o3 s4 o4 p4 o34 s4' p4' s5 o5 p5
      obtain ⟨W4, eW4⟩ : ∃ W4, W3.setCell ⟨x, 3, none⟩ (.slice A4 L1 (c' - 1)) = W4 := ⟨_, rfl⟩
      rw [eW4] at f4 e4 k40' HF
      go_wp2
      go_region_with (first | (go_at_call 40; refine (k40'.out 1).mono ?_; rintro e w' ⟨rfl, rfl⟩))
      all_goals
        go_wp2
        go_roundw
        case rel => exact ⟨j + 1, by omega, by rw [HF.out.2.1.lenAt]; have := HLJ.out.1; simp only; have := HLJ.out.2; simp at this; rw [List.length_drop]; have := HL.out; simp; omega, HF.out.1, ⟨_, _, by rw [HE.out]; have := HF.out.2.1; simpa [List.drop_drop] using this, fun k hk => HO.out.2.2.1 k (hA4b k hk)⟩, HF.out.2.2⟩
        case measure => rw [HF.out.2.1.lenAt, hla]; simp; have := HLJ.out.2; simp at this; omega
    · have e : j = G := by omega
      subst e
      have hle : ¬ ((F : Int) + (r : Int) ≤ M) := fun z => hlt (hgj.2 z)
      have hFl : ¬ ((F : Int) + (r : Int) - 1 < M) := by omega
      rw [HD.out] at hp
      have HO := hidden_ (And.intro hp (And.intro hs (And.intro hba ho)))
      have hgo2 : Hid (∀ wf : World, wf = wr.drewN 0 → True) := fun _ _ => trivial
      obtain ⟨LJ, eLJ⟩ : ∃ LJ, L - j = LJ := ⟨_, rfl⟩
      have hLJ' : LJ ≤ 1000 := by omega
      have hFr : F + r ≤ 2000 := by omega
      have hwF : IntKind.i64.wrap ((F : Int) + (r : Int)) = (F : Int) + (r : Int) := by simp [IntKind.wrap, IntKind.signed, IntKind.bits]; omega
      rw [eLJ] at c3 hla
      clear hp hs hgj hF1 hdl ho hba eLJ
      have fin : Hid (∀ m', DidR B w x b g t wd a D ⟨q.P.drop j, q.st + j * r, n⟩ (wr.drewN m')) := fun m' => ⟨a', c', r0, HO.out.1.drewN m', by have := HO.out.2.1.drewN m'; simp only [← HF0.out, HN.out] at this; exact this, fun k hk => .inl (HO.out.2.2.1 k hk), HO.out.2.2.2.drewN m'⟩
      by_cases hz : LJ = 0
      · subst hz
        go_wp2
        go_quiet (first | (go_at_call 40; exact Calls.quiet_of_same (q40.out _)))
        go_wp2
        go_end0
        exact ⟨rfl, fin.out _⟩
      · have hz' : 0 < LJ := by omega
        by_cases hn2 : (F : Int) + (r : Int) ≤ (n : Int)
        · go_wp2
          go_quiet (first | (go_at_call 40; exact Calls.quiet_of_same (q40.out _)))
          go_wp2
          go_end0
          exact ⟨rfl, fin.out _⟩
        · have hn2' : decide ((F : Int) + (r : Int) ≤ (n : Int)) = false := by simp; omega
          go_wp2
          go_quiet (first | (go_at_call 40; exact Calls.quiet_of_same (q40.out _)))
          go_wp2
          go_end0
          exact ⟨rfl, fin.out _⟩

set_option maxHeartbeats 4000000 in
theorem rkeep_neg {g m : Nat} {s : Pl} {r0 : Nat → Nat} {B : Nat} {w : World} {x b : Nat} {t : ByteArray} {wd : Nat} {q : Sq} {a : Option Addr} {c : Nat} (h : DocAt B w x b t wd q a c) (hp : RefAt B w b g s r0) (hG : Good m s) (hm : m ≤ 1000000) (hq : SqOk wd q) (k : Int) (hk : k ≤ 9223372036854775807) (h0 : k ≤ 0) :
    Calls Try.prog 17 #[.pointer (some ⟨x, 0, none⟩), .int .i64 k] w fun e w' => e = .returned (.tuple #[]) ∧ DidR B w x b g t wd a (keepS wd s q k) (keepQ wd q k) w' := by
  have H := hidden_ h
  have HG := hidden_ hG
  have HP := hidden_ hp
  have hgo := hidden_ (fun j => keep_go hq k j)
  obtain ⟨g1, g2⟩ := keepN_le hq k
  have hl : q.P.length ≤ 1000 := Nat.le_trans hq.len hq.few
  have hf := hq.few
  have hst := hq.st
  have r1 := rr_le wd
  have r0' := hq.rr
  have eS : keepS wd s q k = (q.P.take (keepN wd q k)).foldl drS s := rfl
  have eQ : keepQ wd q k = ⟨q.P.drop (keepN wd q k), q.st + keepN wd q k * (32 / wd), q.n⟩ := rfl
  rw [eS, eQ]
  obtain ⟨G, eG⟩ : ∃ G, keepN wd q k = G := ⟨_, rfl⟩
  simp only [eG] at g1 g2 hgo ⊢
  have k40 : Hid (∀ W q' a' c', DocAt B W x b t wd q' a' c' → Calls Try.prog 40 #[.pointer (some ⟨x, 0, none⟩)] W fun e w' => e = .returned (.int .i64 ((32 / wd : Nat) : Int)) ∧ w' = W) := fun W q' a' c' hW => rrows_call hW ⟨hq.w0, hq.w1⟩
  obtain ⟨r, er⟩ : ∃ r : Nat, 32 / wd = r := ⟨_, rfl⟩
  simp only [er] at g1 hgo r1 k40 r0' ⊢
  have hmx : Hid (∀ j, j ≤ G → q.st + j * r ≤ q.n) := fun j hj => by
    have := Nat.mul_le_mul_right r hj
    omega
  obtain ⟨D, eD⟩ : ∃ D, (q.P.take G).foldl drS s = D := ⟨_, rfl⟩
  rw [eD]
  have HD := hidden_ eD
  have eM0 : (q.n : Int) - max k 0 = (q.n : Int) := by omega
  simp only [eM0] at hgo
  obtain ⟨L, eL⟩ : ∃ L, q.P.length = L := ⟨_, rfl⟩
  have HL := hidden_ eL
  rw [eL] at hl g2
  obtain ⟨n, en⟩ : ∃ n, q.n = n := ⟨_, rfl⟩
  rw [en] at hf hst
  simp only [en] at hgo hmx ⊢
  have HN := hidden_ en
  clear h hp hG hq eS eQ eG er eD g1 eM0 eL en
  go_enter Try.func17, Try.ntmps17
  go_wp2
  go_loopw [] (fun wr => ∃ j : Nat, j ≤ G ∧ lenAt wr x = L - j ∧ RefAt B wr b g ((q.P.take j).foldl drS s) r0 ∧ (∃ a' c', DocAt B wr x b t wd ⟨q.P.drop j, q.st + j * r, q.n⟩ a' c' ∧ (∀ k, blkOf a' k → blkOf a k)) ∧ OffS B TR (fun k => k = x) w wr) (fun wr => lenAt wr x)
  case atStart => exact ⟨0, Nat.zero_le _, by rw [H.out.lenAt, HL.out]; rfl, HP.out, ⟨a, c, by simpa using H.out, fun _ z => z⟩, OffS.refl _ _ _ _⟩
  case round =>
    obtain ⟨j, hj, hla, hp, ⟨a', c', hs, hba⟩, ho⟩ := hrel
    have c3 := hs.c3
    have c4 := hs.c4
    have c5 := hs.c5
    have c0 := hs.c0
    have hF := hmx.out j hj
    have hgj := hgo.out j
    have hF1 := fun (h : j < G) => hmx.out (j + 1) h
    have e1 : q.st + (j + 1) * r = q.st + j * r + r := by rw [Nat.add_mul, Nat.one_mul, Nat.add_assoc]
    have eF' : (q.st : Int) + (j : Int) * (r : Int) = ((q.st + j * r : Nat) : Int) := by rw [Int.natCast_add, Int.natCast_mul]
    rw [eF'] at hgj
    simp only [e1] at hF1
    have hdl : (q.P.drop j).length = L - j := by rw [List.length_drop, HL.out]
    simp only [hdl, HN.out] at c3 c5
    obtain ⟨F, eF⟩ : ∃ F, q.st + j * r = F := ⟨_, rfl⟩
    simp only [eF] at c4 hF hF1 hs hgj
    have HE := hidden_ (e1.trans (by rw [eF]))
    have HF0 := hidden_ eF
    have q40 := hidden_ fun m' => k40.out (wr.drewN m') _ _ _ (hs.drewN m')
    clear e1 eF eF'
    by_cases hlt : j < G
    · have hle : (F : Int) + (r : Int) ≤ (n : Int) := hgj.1 hlt
      have hF2 := hF1 hlt
      have hjl : 0 < (q.P.drop j).length := by rw [hdl]; omega
      obtain ⟨y, rfl, hc⟩ := hs.page hjl
      have hz0 : (q.P.drop j).getD 0 0 = q.P.getD j 0 := by simp [List.getD]
      simp only [hz0] at hc
      rw [add_nought] at hc
      have hc' : wr.cell? (y.add 0) = some (.int .i64 (q.P.getD j 0)) := by rw [add_nought]; exact hc
      have hjL : j < q.P.length := by rw [HL.out]; omega
      have k39 := fun m' => refDrop_call (hp.drewN m') (HG.out.drops (q.P.take j)) hm (q.P.getD j 0)
      simp only [← fold_snoc drS s hjL] at k39
      obtain ⟨Z, eZ⟩ : ∃ Z, q.P.getD j 0 = Z := ⟨_, rfl⟩
      rw [eZ] at hc hc'
      simp only [eZ] at k39
      obtain ⟨E, eE⟩ : ∃ E, shE ((q.P.take j).foldl drS s) Z = E := ⟨_, rfl⟩
      simp only [eE] at k39
      have HO := hidden_ (And.intro hs (And.intro ho (And.intro hba hz0)))
      have HZ := hidden_ eZ
      obtain ⟨LJ, eLJ⟩ : ∃ LJ, L - j = LJ := ⟨_, rfl⟩
      have hLJ : 0 < LJ := by omega
      have hLJ' : LJ ≤ 1000 := by omega
      have hFn : (F : Int) + (r : Int) ≤ (n : Int) := by omega
      have hwF : IntKind.i64.wrap ((F : Int) + (r : Int)) = (F : Int) + (r : Int) := by simp [IntKind.wrap, IntKind.signed, IntKind.bits]; omega
      have hFl : (F : Int) + (r : Int) - 1 < (n : Int) := by omega
      have hcapL := hs.cap
      have hcapm := hs.capm
      rw [hdl, eLJ] at hcapL
      rw [eLJ] at c3 hla hdl
      have HLJ := hidden_ (And.intro eLJ hdl)
      clear hp hs ho eZ eE hjl hgj hF1 hjL hz0 hba eLJ hdl
      go_wp2
      go_quiet (first | (go_at_call 40; exact Calls.quiet_of_same (q40.out _)))
      go_wp2
      replace k39 := k39 (nq + 1)
      go_region_held3 (fun W => W.cell? ⟨x, 0, none⟩ = some (.pointer (some ⟨b, 0, none⟩)) ∧ W.cell? ⟨x, 3, none⟩ = some (.slice (some y) LJ c') ∧ W.cell? y = some (.int .i64 Z)) (first | assumption | (exact ⟨c0, c3, hc⟩) | exact d05) (first
        | (go_at_call 39; refine k39.mono ?_; rintro e W3 ⟨rfl, hp3, ho3⟩; have ho4 : Off B TQ wr W3 := ⟨ho3.os, ho3.tape, ho3.output, ho3.size, ho3.block⟩; have hs3 := HO.out.1.off ho4 rfl rfl; have hd5 := hs3.c3; simp only [HLJ.out.2] at hd5; have hy3 := hs3.pg.cell y rfl 0 (by simp only [HLJ.out.2]; exact hLJ); rw [add_nought, HO.out.2.2.2, HZ.out] at hy3; have d05 := And.intro hs3.c0 (And.intro hd5 hy3); have HT := hidden_ (And.intro hp3 (And.intro hs3 (OffS.trans HO.out.2.1 ((ho4.mono TQ_TR').toS (fun k => k = x)) (fun _ z => .inl z)))); clear hp3 ho3 ho4 hs3 hd5 hy3 k39))
      obtain ⟨p3, s3, o3⟩ := HT.out
      have e3 := s3.c3
      simp only [HLJ.out.2] at e3
      obtain ⟨L1, eL1⟩ : ∃ L1, LJ = L1 + 1 := ⟨LJ - 1, by omega⟩
      obtain ⟨A4, hA4, hA4b, -, f3, s4, o4⟩ := doc_tail s3 y c' L1 (by simp only [HLJ.out.2]; exact eL1) rfl
      have p4 := p3.of_blocks (o4.row p3.top rfl (p3.top.ne s3.top (by decide))) (o4.row p3.row rfl (p3.row.ne s3.top (by decide))) (fun i hi hu => o4.row (p3.cr i hi hu).1 rfl ((p3.cr i hi hu).1.ne s3.top (by decide)))
      have o34 := OffS.trans o3 (o4.mono (T' := TR) (S' := fun k => k = x) (fun _ _ => rfl) (fun _ z => z)) (fun _ z => .inl z)
      have hA4' : (if c' = 1 then some y else some (⟨y.block, y.off + 1, none⟩ : Addr)) = A4 := hA4
      have f4 := s4.top.open_ 4
      have e4 := s4.c4
      simp only at e4
      have k40' := hidden_ fun m' => k40.out ((W3.setCell ⟨x, 3, none⟩ (.slice A4 L1 (c' - 1))).drewN m') _ _ _ (s4.drewN m')
      have s4' := s4.drewN 1
      obtain ⟨s5, o5⟩ := s4'.setSt (F + r)
      have p4' := p4.drewN 1
      have p5 := p4'.of_blocks (o5.row p4'.top rfl (p4'.top.ne s4'.top (by decide))) (o5.row p4'.row rfl (p4'.row.ne s4'.top (by decide))) (fun i hi hu => o5.row (p4'.cr i hi hu).1 rfl ((p4'.cr i hi hu).1.ne s4'.top (by decide)))
      have HF := hidden_ (And.intro p5 (And.intro s5 (OffS.trans (o34.drewN 1) (o5.mono (T' := TR) (S' := fun k => k = x) (fun _ _ => rfl) (fun _ z => z)) (fun _ z => .inl z))))
      rw [Int.natCast_add] at HF
      subst eL1
      clear p3 s3 o3 s4 o4 p4 o34 s4' p4' s5 o5 p5
      obtain ⟨W4, eW4⟩ : ∃ W4, W3.setCell ⟨x, 3, none⟩ (.slice A4 L1 (c' - 1)) = W4 := ⟨_, rfl⟩
      rw [eW4] at f4 e4 k40' HF
      go_wp2
      go_region_with (first | (go_at_call 40; refine (k40'.out 1).mono ?_; rintro e w' ⟨rfl, rfl⟩))
      all_goals
        go_wp2
        go_roundw
        case rel => exact ⟨j + 1, by omega, by rw [HF.out.2.1.lenAt]; have := HLJ.out.1; simp only; have := HLJ.out.2; simp at this; rw [List.length_drop]; have := HL.out; simp; omega, HF.out.1, ⟨_, _, by rw [HE.out]; have := HF.out.2.1; simpa [List.drop_drop] using this, fun k hk => HO.out.2.2.1 k (hA4b k hk)⟩, HF.out.2.2⟩
        case measure => rw [HF.out.2.1.lenAt, hla]; simp; have := HLJ.out.2; simp at this; omega
    · have e : j = G := by omega
      subst e
      have hle : ¬ ((F : Int) + (r : Int) ≤ (n : Int)) := fun z => hlt (hgj.2 z)
      have hFl : ¬ ((F : Int) + (r : Int) - 1 < (n : Int)) := by omega
      rw [HD.out] at hp
      have HO := hidden_ (And.intro hp (And.intro hs (And.intro hba ho)))
      have hgo2 : Hid (∀ wf : World, wf = wr.drewN 0 → True) := fun _ _ => trivial
      obtain ⟨LJ, eLJ⟩ : ∃ LJ, L - j = LJ := ⟨_, rfl⟩
      have hLJ' : LJ ≤ 1000 := by omega
      have hFr : F + r ≤ 2000 := by omega
      have hwF : IntKind.i64.wrap ((F : Int) + (r : Int)) = (F : Int) + (r : Int) := by simp [IntKind.wrap, IntKind.signed, IntKind.bits]; omega
      rw [eLJ] at c3 hla
      clear hp hs hgj hF1 hdl ho hba eLJ
      have fin : Hid (∀ m', DidR B w x b g t wd a D ⟨q.P.drop j, q.st + j * r, n⟩ (wr.drewN m')) := fun m' => ⟨a', c', r0, HO.out.1.drewN m', by have := HO.out.2.1.drewN m'; simp only [← HF0.out, HN.out] at this; exact this, fun k hk => .inl (HO.out.2.2.1 k hk), HO.out.2.2.2.drewN m'⟩
      by_cases hz : LJ = 0
      · subst hz
        go_wp2
        go_quiet (first | (go_at_call 40; exact Calls.quiet_of_same (q40.out _)))
        go_wp2
        go_end0
        exact ⟨rfl, fin.out _⟩
      · have hz' : 0 < LJ := by omega
        by_cases hn2 : (F : Int) + (r : Int) ≤ (n : Int)
        · exact absurd hn2 hle
        · have hn2' : decide ((F : Int) + (r : Int) ≤ (n : Int)) = false := by simp; omega
          go_wp2
          go_quiet (first | (go_at_call 40; exact Calls.quiet_of_same (q40.out _)))
          go_wp2
          go_end0
          exact ⟨rfl, fin.out _⟩

theorem rkeep_call {g m : Nat} {s : Pl} {r : Nat → Nat} {B : Nat} {w : World} {x b : Nat} {t : ByteArray} {wd : Nat} {q : Sq} {a : Option Addr} {c : Nat} (h : DocAt B w x b t wd q a c) (hp : RefAt B w b g s r) (hG : Good m s) (hm : m ≤ 1000000) (hq : SqOk wd q) (k : Int) (hk : k ≤ 9223372036854775807) :
    Calls Try.prog 17 #[.pointer (some ⟨x, 0, none⟩), .int .i64 k] w fun e w' => e = .returned (.tuple #[]) ∧ DidR B w x b g t wd a (keepS wd s q k) (keepQ wd q k) w' := by
  by_cases h0 : 0 < k
  · exact rkeep_pos h hp hG hm hq k hk h0
  · exact rkeep_neg h hp hG hm hq k hk (by omega)

end Go.Proofs.Ytgjjeggopeppfaa

/- The program lets go of pages ahead: the contract of Keep. -/
import Derived.Test.YtgjjeggopeppfaaRows
import Derived.Test.YtgjjeggopeppfaaPages
import Derived.Test.YtgjjeggopeppfaaBasis
import Derived.Test.YtgjjeggopeppfaaLeast
import Derived.Test.YtgjjeggopeppfaaLays
import Derived.Test.YtgjjeggopeppfaaTurns
import Derived.Test.YtgjjeggopeppfaaGoods
import Derived.Test.YtgjjeggopeppfaaLies
import Derived.Test.YtgjjeggopeppfaaSeqP
import Derived.Test.YtgjjeggopeppfaaSeqRN
import Derived.Test.YtgjjeggopeppfaaReadsB
import Derived.Test.YtgjjeggopeppfaaRooms
import Derived.Test.YtgjjeggopeppfaaForks
import Derived.Test.YtgjjeggopeppfaaDelete
import Derived.WalkKit
import Derived.ProofKit
import Derived.OpenShut
import Derived.Below
import Derived.WalkLawsBesides
import Derived.Deep.QuietTactic
import Derived.BigQuiet
import Derived.Laws.OwnMore
import Derived.Deep.RegionWith
import Derived.Deep.RegionHeld3
namespace Go.Proofs.Ytgjjeggopeppfaa
open Go.ChangeShapes Go.WideShapes Go.ChangeAt Go.RowKit
set_option linter.unusedVariables false
set_option linter.unusedSimpArgs false

theorem cellI {B : Nat} {w : World} {y : Addr} {l l' c j : Nat} {zs : List Int} (h : RowI B w (some y) l c zs) (hl : l = l') (hj : j < l') : w.cell? (y.add j) = some (.int .i64 (zs.getD j 0)) := h.reads.cell y rfl j (by omega)
/-- behind the last drop: the row of pages is cut, and stored -/
theorem keep_end {B : Nat} {w wr W : World} {x b g : Nat} {t : ByteArray} {wd : Nat} {q : Sq} {a : Option Addr} {c L n : Nat} {s : Pl} (h : SeqAt B wr x b t wd q a c) (hp : PoolAt B wr b g s) (ho : OffS B TP (Own x a) w wr) (hL : q.P.length = L) (hr : RowI B W a (L - n) c (q.P.drop n)) (hoff : OffS B (fun _ => false) (blkOf a) wr W) :
    W.cell? ⟨x, 5, none⟩ = some (.slice a L c) ∧ W.frozen? ⟨x, 5, none⟩ = false ∧ PoolAt B (W.setCell ⟨x, 5, none⟩ (.slice a (L - n) c)) b g s ∧ SeqAt B (W.setCell ⟨x, 5, none⟩ (.slice a (L - n) c)) x b t wd ⟨q.P.drop n, q.st, q.n⟩ a c ∧ OffS B TP (Own x a) w (W.setCell ⟨x, 5, none⟩ (.slice a (L - n) c)) := by
  have hx : W.heap[x]? = wr.heap[x]? := hoff.row h.top rfl (fun hk => by obtain ⟨_, m', hr⟩ := h.pg.block hk; exact h.top.ne hr (by decide) rfl)
  have el : (q.P.drop n).length = L - n := by rw [List.length_drop, hL]
  obtain ⟨s5, o5⟩ := h.newP hx (q.P.drop n) (by rw [el]; exact hr)
  rw [el] at s5 o5
  have o35 := OffS.trans (hoff.mono (T' := fun _ => false) (S' := Own x a) (fun _ _ => rfl) (fun _ z => .inr z)) (o5.mono (S' := Own x a) (fun _ _ => rfl) (fun _ z => .inl z)) (fun _ z => .inl z)
  have key : ∀ {t' : TypeId} {g' m' : Nat}, Row t' wr g' m' → t' ≠ 72 → t' ≠ 3 → (W.setCell ⟨x, 5, none⟩ (.slice a (L - n) c)).heap[g']? = wr.heap[g']? := fun r h1 h2 => o35.row r rfl (fun z => by rcases (h.type z).2.2 with e | e <;> (rw [r.type] at e; injection e with e; first | exact h1 e | exact h2 e))
  refine ⟨(cell_of_block hx 5).trans (by rw [← hL]; exact h.c5), (h.top.of_block hx).open_ 5, hp.of_blocks (key hp.top (by decide) (by decide)) (key hp.row (by decide) (by decide)), s5, OffS.trans ho (o35.mono (T' := TP) (fun _ _ => rfl) (fun _ z => z)) (fun _ z => .inl z)⟩


theorem keep_pos {g m : Nat} {s : Pl} {B : Nat} {w : World} {x b : Nat} {t : ByteArray} {wd : Nat} {q : Sq} {a : Option Addr} {c : Nat} (h : SeqAt B w x b t wd q a c) (hp : PoolAt B w b g s) (hG : Good m s) (hm : m ≤ 1000000) (hq : SqOk wd q) (k : Int) (hk : k ≤ 9223372036854775807) (h0 : 0 ≤ k) :
    Calls Try.prog 16 #[.pointer (some ⟨x, 0, none⟩), .int .i64 k] w fun e w' => e = .returned (.tuple #[]) ∧ Did B w x b g t wd a (keepS wd s q k) (keepQ wd q k) w' := by
  have c4 := h.c4
  have H := hidden_ h
  have HG := hidden_ hG
  have HP := hidden_ hp
  have hgo := hidden_ (fun j => keep_go hq k j)
  obtain ⟨g1, g2⟩ := keepN_le hq k
  have hl : q.P.length ≤ 1000 := Nat.le_trans hq.len hq.few
  have hf := hq.few
  have hst := hq.st
  have r1 := rr_le wd
  have eS : keepS wd s q k = (q.P.take (keepN wd q k)).foldl drS s := rfl
  have eQ : keepQ wd q k = ⟨q.P.drop (keepN wd q k), q.st + keepN wd q k * (32 / wd), q.n⟩ := rfl
  rw [eS, eQ]
  obtain ⟨G, eG⟩ : ∃ G, keepN wd q k = G := ⟨_, rfl⟩
  simp only [eG] at g1 g2 hgo ⊢
  have k43 : Hid (∀ W q', SeqAt B W x b t wd q' a c → Calls Try.prog 43 #[.pointer (some ⟨x, 0, none⟩)] W fun e w' => e = .returned (.int .i64 ((32 / wd : Nat) : Int)) ∧ w' = W) := fun W q' hW => rows_call hW ⟨hq.w0, hq.w1⟩
  obtain ⟨r, er⟩ : ∃ r : Nat, 32 / wd = r := ⟨_, rfl⟩
  simp only [er] at g1 hgo r1 k43 ⊢
  have hmx : Hid (∀ j, j ≤ G → q.st + j * r ≤ 1000) := fun j hj => by
    have := Nat.mul_le_mul_right r hj
    omega
  obtain ⟨D, eD⟩ : ∃ D, (q.P.take G).foldl drS s = D := ⟨_, rfl⟩
  rw [eD]
  have HD := hidden_ eD
  have eM0 : (q.n : Int) - max k 0 = (q.n : Int) - k := by omega
  simp only [eM0] at hgo
  obtain ⟨L, eL⟩ : ∃ L, q.P.length = L := ⟨_, rfl⟩
  have HL := hidden_ eL
  rw [eL] at hl g2
  obtain ⟨n, en⟩ : ∃ n, q.n = n := ⟨_, rfl⟩
  rw [en] at c4 hf hst
  simp only [en] at hgo ⊢
  have HN := hidden_ en
  clear h hp hG hq eS eQ eG er eD g1 eM0 eL en
  obtain ⟨M, eM⟩ : ∃ M, (n : Int) - k = M := ⟨_, rfl⟩
  simp only [eM] at hgo
  have m0 : -9223372036854775807 ≤ M := by omega
  have m1 : M ≤ 1000 := by omega
  go_enter Try.func16, Try.ntmps16
  go_wp2
  go_loopw [5] (fun i wr => ∃ j : Nat, j ≤ G ∧ i = .int .i64 j ∧ PoolAt B wr b g ((q.P.take j).foldl drS s) ∧ SeqAt B wr x b t wd ⟨q.P, q.st + j * r, q.n⟩ a c ∧ OffS B TP (Own x a) w wr) (fun i _ => G - (intOf i).toNat)
  case atStart => exact ⟨0, Nat.zero_le _, rfl, HP.out, by simpa using H.out, OffS.refl _ _ _ _⟩
  case round =>
    obtain ⟨j, hj, rfl, hp, hs, ho⟩ := hrel
    have c3 := hs.c3
    have hF := hmx.out j hj
    have hgj := hgo.out j
    have hF1 := fun (h : j < G) => hmx.out (j + 1) h
    have e1 : q.st + (j + 1) * r = q.st + j * r + r := by rw [Nat.add_mul, Nat.one_mul, Nat.add_assoc]
    have eF' : (q.st : Int) + (j : Int) * (r : Int) = ((q.st + j * r : Nat) : Int) := by rw [Int.natCast_add, Int.natCast_mul]
    rw [eF'] at hgj
    simp only [e1] at hF1
    obtain ⟨F, eF⟩ : ∃ F, q.st + j * r = F := ⟨_, rfl⟩
    simp only [eF] at c3 hF hF1 hs hgj
    have HE := hidden_ (e1.trans (by rw [eF]))
    have HF0 := hidden_ eF
    have q43 := hidden_ fun m' => k43.out (wr.drewN m') _ (hs.drewN m')
    clear e1 eF eF'
    by_cases hlt : j < G
    · have hle : (F : Int) + (r : Int) ≤ M := hgj.1 hlt
      have hF2 := hF1 hlt
      have c0 := hs.c0
      have c5 := hs.c5
      have hjl : j < q.P.length := by rw [HL.out]; omega
      obtain ⟨y, rfl, hc⟩ := hs.page hjl
      simp only at hc c5
      rw [HL.out] at c5
      have k44 := fun m' => drop_call (hp.drewN m') (HG.out.drops (q.P.take j)) hm (q.P.getD j 0)
      simp only [← fold_snoc drS s hjl] at k44
      obtain ⟨Z, eZ⟩ : ∃ Z, q.P.getD j 0 = Z := ⟨_, rfl⟩
      rw [eZ] at hc
      simp only [eZ] at k44
      obtain ⟨E, eE⟩ : ∃ E, shE ((q.P.take j).foldl drS s) Z = E := ⟨_, rfl⟩
      simp only [eE] at k44
      have HO := hidden_ (And.intro hs ho)
      have hjL : j < L := by omega
      have HZ := hidden_ eZ
      clear hp hs ho eZ eE hjl hgj hF1
      go_wp2
      go_quiet (first | (go_at_call 43; exact Calls.quiet_of_same (q43.out _)))
      go_wp2
      replace k44 := k44 (nq + 1)
      go_region_held3 (fun W => W.cell? ⟨x, 0, none⟩ = some (.pointer (some ⟨b, 0, none⟩)) ∧ W.cell? ⟨x, 5, none⟩ = some (.slice (some y) L c) ∧ W.cell? (y.add j) = some (.int .i64 Z)) (first | assumption | (exact ⟨c0, c5, hc⟩) | exact d05) (first
        | (go_at_call 44; refine k44.mono ?_; rintro e W3 ⟨rfl, hp3, ho3⟩; have ho4 : Off B TP wr W3 := ⟨ho3.os, ho3.tape, ho3.output, ho3.size, ho3.block⟩; have hs3 := HO.out.1.off ho4 rfl rfl; have hd5 := hs3.c5; simp only at hd5; rw [HL.out] at hd5; have d05 := And.intro hs3.c0 (And.intro hd5 ((cellI (HO.out.1.pg.off ho4 rfl) HL.out hjL).trans (by rw [HZ.out]))); have HT := hidden_ (And.intro hp3 (And.intro hs3 (OffS.trans HO.out.2 (ho4.toS (Own x (some y))) (fun _ z => .inl z)))); clear hp3 ho3 ho4 hs3 hd5 k44))
      obtain ⟨p3, s3, o3⟩ := HT.out
      have e3 := s3.c3
      simp only at e3
      have f3 := s3.top.open_ 3
      have k43' := hidden_ fun m' => k43.out (W3.drewN m') _ (s3.drewN m')
      replace s3 := s3.drewN 1
      replace p3 := p3.drewN 1
      replace o3 := o3.drewN 1
      obtain ⟨s4, o4⟩ := s3.setSt (F + r)
      have p4 := p3.of_blocks (o4.row p3.top rfl (p3.top.ne s3.top (by decide))) (o4.row p3.row rfl (p3.row.ne s3.top (by decide)))
      have HF := hidden_ (And.intro p4 (And.intro s4 (OffS.trans o3 (o4.mono (T' := TP) (S' := Own x (some y)) (fun _ _ => rfl) (fun _ z => .inl z)) (fun _ z => .inl z))))
      rw [Int.natCast_add] at HF
      clear p3 s3 o3 s4 o4 p4
      go_wp2
      go_region_with (first | (go_at_call 43; refine (k43'.out 1).mono ?_; rintro e w' ⟨rfl, rfl⟩))
      all_goals
        go_wp2
        go_roundw
        case rel => exact ⟨j + 1, by omega, by go_num, HF.out.1, by rw [HE.out]; exact HF.out.2.1, HF.out.2.2⟩
        case measure => simp [intOf]; omega
    · have e : j = G := by omega
      subst e
      have hle : ¬ ((F : Int) + (r : Int) ≤ M) := fun z => hlt (hgj.2 z)
      rw [HD.out] at hp
      have c5 := hs.c5
      simp only at c5
      rw [HL.out] at c5
      have k45 := hidden_ fun m' => delete_call (hs.pg.below (show Below wr.heap.size wr (wr.drewN m') from ⟨rfl, rfl, rfl, Nat.le_refl _, fun _ _ => rfl⟩)) j (by simp only; rw [HL.out]; exact g2) (by simp only; rw [HL.out]; exact hl)
      simp only [HL.out] at k45
      have HO := hidden_ (And.intro hp (And.intro hs ho))
      clear hp hs ho hgj hF1
      go_wp2
      go_quiet (first | (go_at_call 43; exact Calls.quiet_of_same (q43.out _)))
      have kd := k45.out nq
      go_wp2_with (first
        | (go_at_call 45; refine kd.mono ?_; rintro e W3 ⟨rfl, hr3, ho3⟩; have hd3 := keep_end HO.out.2.1 HO.out.1 HO.out.2.2 HL.out hr3 ⟨ho3.os, ho3.tape, ho3.output, ho3.size, ho3.block⟩; have d5 := hd3.1; have f5 := hd3.2.1; have HF := hidden_ hd3.2.2; clear hr3 ho3 hd3 kd))
      go_end0
      refine ⟨rfl, a, c, HF.out.1, ?_, (fun k hk => .inl hk), HF.out.2.2⟩
      have := HF.out.2.1
      simp only [← HF0.out, HN.out] at this
      exact this

theorem keep_neg {g m : Nat} {s : Pl} {B : Nat} {w : World} {x b : Nat} {t : ByteArray} {wd : Nat} {q : Sq} {a : Option Addr} {c : Nat} (h : SeqAt B w x b t wd q a c) (hp : PoolAt B w b g s) (hG : Good m s) (hm : m ≤ 1000000) (hq : SqOk wd q) (k : Int) (hk : k ≤ 9223372036854775807) (h0 : k < 0) :
    Calls Try.prog 16 #[.pointer (some ⟨x, 0, none⟩), .int .i64 k] w fun e w' => e = .returned (.tuple #[]) ∧ Did B w x b g t wd a (keepS wd s q k) (keepQ wd q k) w' := by
  have c4 := h.c4
  have H := hidden_ h
  have HG := hidden_ hG
  have HP := hidden_ hp
  have hgo := hidden_ (fun j => keep_go hq k j)
  obtain ⟨g1, g2⟩ := keepN_le hq k
  have hl : q.P.length ≤ 1000 := Nat.le_trans hq.len hq.few
  have hf := hq.few
  have hst := hq.st
  have r1 := rr_le wd
  have eS : keepS wd s q k = (q.P.take (keepN wd q k)).foldl drS s := rfl
  have eQ : keepQ wd q k = ⟨q.P.drop (keepN wd q k), q.st + keepN wd q k * (32 / wd), q.n⟩ := rfl
  rw [eS, eQ]
  obtain ⟨G, eG⟩ : ∃ G, keepN wd q k = G := ⟨_, rfl⟩
  simp only [eG] at g1 g2 hgo ⊢
  have k43 : Hid (∀ W q', SeqAt B W x b t wd q' a c → Calls Try.prog 43 #[.pointer (some ⟨x, 0, none⟩)] W fun e w' => e = .returned (.int .i64 ((32 / wd : Nat) : Int)) ∧ w' = W) := fun W q' hW => rows_call hW ⟨hq.w0, hq.w1⟩
  obtain ⟨r, er⟩ : ∃ r : Nat, 32 / wd = r := ⟨_, rfl⟩
  simp only [er] at g1 hgo r1 k43 ⊢
  have hmx : Hid (∀ j, j ≤ G → q.st + j * r ≤ 1000) := fun j hj => by
    have := Nat.mul_le_mul_right r hj
    omega
  obtain ⟨D, eD⟩ : ∃ D, (q.P.take G).foldl drS s = D := ⟨_, rfl⟩
  rw [eD]
  have HD := hidden_ eD
  have eM0 : (q.n : Int) - max k 0 = (q.n : Int) := by omega
  simp only [eM0] at hgo
  obtain ⟨L, eL⟩ : ∃ L, q.P.length = L := ⟨_, rfl⟩
  have HL := hidden_ eL
  rw [eL] at hl g2
  obtain ⟨n, en⟩ : ∃ n, q.n = n := ⟨_, rfl⟩
  rw [en] at c4 hf hst
  simp only [en] at hgo ⊢
  have HN := hidden_ en
  clear h hp hG hq eS eQ eG er eD g1 eM0 eL en
  go_enter Try.func16, Try.ntmps16
  go_wp2
  go_loopw [5] (fun i wr => ∃ j : Nat, j ≤ G ∧ i = .int .i64 j ∧ PoolAt B wr b g ((q.P.take j).foldl drS s) ∧ SeqAt B wr x b t wd ⟨q.P, q.st + j * r, q.n⟩ a c ∧ OffS B TP (Own x a) w wr) (fun i _ => G - (intOf i).toNat)
  case atStart => exact ⟨0, Nat.zero_le _, rfl, HP.out, by simpa using H.out, OffS.refl _ _ _ _⟩
  case round =>
    obtain ⟨j, hj, rfl, hp, hs, ho⟩ := hrel
    have c3 := hs.c3
    have hF := hmx.out j hj
    have hgj := hgo.out j
    have hF1 := fun (h : j < G) => hmx.out (j + 1) h
    have e1 : q.st + (j + 1) * r = q.st + j * r + r := by rw [Nat.add_mul, Nat.one_mul, Nat.add_assoc]
    have eF' : (q.st : Int) + (j : Int) * (r : Int) = ((q.st + j * r : Nat) : Int) := by rw [Int.natCast_add, Int.natCast_mul]
    rw [eF'] at hgj
    simp only [e1] at hF1
    obtain ⟨F, eF⟩ : ∃ F, q.st + j * r = F := ⟨_, rfl⟩
    simp only [eF] at c3 hF hF1 hs hgj
    have HE := hidden_ (e1.trans (by rw [eF]))
    have HF0 := hidden_ eF
    have q43 := hidden_ fun m' => k43.out (wr.drewN m') _ (hs.drewN m')
    clear e1 eF eF'
    by_cases hlt : j < G
    · have hle : (F : Int) + (r : Int) ≤ (n : Int) := hgj.1 hlt
      have hF2 := hF1 hlt
      have c0 := hs.c0
      have c5 := hs.c5
      have hjl : j < q.P.length := by rw [HL.out]; omega
      obtain ⟨y, rfl, hc⟩ := hs.page hjl
      simp only at hc c5
      rw [HL.out] at c5
      have k44 := fun m' => drop_call (hp.drewN m') (HG.out.drops (q.P.take j)) hm (q.P.getD j 0)
      simp only [← fold_snoc drS s hjl] at k44
      obtain ⟨Z, eZ⟩ : ∃ Z, q.P.getD j 0 = Z := ⟨_, rfl⟩
      rw [eZ] at hc
      simp only [eZ] at k44
      obtain ⟨E, eE⟩ : ∃ E, shE ((q.P.take j).foldl drS s) Z = E := ⟨_, rfl⟩
      simp only [eE] at k44
      have HO := hidden_ (And.intro hs ho)
      have hjL : j < L := by omega
      have HZ := hidden_ eZ
      clear hp hs ho eZ eE hjl hgj hF1
      go_wp2
      go_quiet (first | (go_at_call 43; exact Calls.quiet_of_same (q43.out _)))
      go_wp2
      replace k44 := k44 (nq + 1)
      go_region_held3 (fun W => W.cell? ⟨x, 0, none⟩ = some (.pointer (some ⟨b, 0, none⟩)) ∧ W.cell? ⟨x, 5, none⟩ = some (.slice (some y) L c) ∧ W.cell? (y.add j) = some (.int .i64 Z)) (first | assumption | (exact ⟨c0, c5, hc⟩) | exact d05) (first
        | (go_at_call 44; refine k44.mono ?_; rintro e W3 ⟨rfl, hp3, ho3⟩; have ho4 : Off B TP wr W3 := ⟨ho3.os, ho3.tape, ho3.output, ho3.size, ho3.block⟩; have hs3 := HO.out.1.off ho4 rfl rfl; have hd5 := hs3.c5; simp only at hd5; rw [HL.out] at hd5; have d05 := And.intro hs3.c0 (And.intro hd5 ((cellI (HO.out.1.pg.off ho4 rfl) HL.out hjL).trans (by rw [HZ.out]))); have HT := hidden_ (And.intro hp3 (And.intro hs3 (OffS.trans HO.out.2 (ho4.toS (Own x (some y))) (fun _ z => .inl z)))); clear hp3 ho3 ho4 hs3 hd5 k44))
      obtain ⟨p3, s3, o3⟩ := HT.out
      have e3 := s3.c3
      simp only at e3
      have f3 := s3.top.open_ 3
      have k43' := hidden_ fun m' => k43.out (W3.drewN m') _ (s3.drewN m')
      replace s3 := s3.drewN 1
      replace p3 := p3.drewN 1
      replace o3 := o3.drewN 1
      obtain ⟨s4, o4⟩ := s3.setSt (F + r)
      have p4 := p3.of_blocks (o4.row p3.top rfl (p3.top.ne s3.top (by decide))) (o4.row p3.row rfl (p3.row.ne s3.top (by decide)))
      have HF := hidden_ (And.intro p4 (And.intro s4 (OffS.trans o3 (o4.mono (T' := TP) (S' := Own x (some y)) (fun _ _ => rfl) (fun _ z => .inl z)) (fun _ z => .inl z))))
      rw [Int.natCast_add] at HF
      clear p3 s3 o3 s4 o4 p4
      go_wp2
      go_region_with (first | (go_at_call 43; refine (k43'.out 1).mono ?_; rintro e w' ⟨rfl, rfl⟩))
      all_goals
        go_wp2
        go_roundw
        case rel => exact ⟨j + 1, by omega, by go_num, HF.out.1, by rw [HE.out]; exact HF.out.2.1, HF.out.2.2⟩
        case measure => simp [intOf]; omega
    · have e : j = G := by omega
      subst e
      have hle : ¬ ((F : Int) + (r : Int) ≤ (n : Int)) := fun z => hlt (hgj.2 z)
      rw [HD.out] at hp
      have c5 := hs.c5
      simp only at c5
      rw [HL.out] at c5
      have k45 := hidden_ fun m' => delete_call (hs.pg.below (show Below wr.heap.size wr (wr.drewN m') from ⟨rfl, rfl, rfl, Nat.le_refl _, fun _ _ => rfl⟩)) j (by simp only; rw [HL.out]; exact g2) (by simp only; rw [HL.out]; exact hl)
      simp only [HL.out] at k45
      have HO := hidden_ (And.intro hp (And.intro hs ho))
      clear hp hs ho hgj hF1
      go_wp2
      go_quiet (first | (go_at_call 43; exact Calls.quiet_of_same (q43.out _)))
      have kd := k45.out nq
      go_wp2_with (first
        | (go_at_call 45; refine kd.mono ?_; rintro e W3 ⟨rfl, hr3, ho3⟩; have hd3 := keep_end HO.out.2.1 HO.out.1 HO.out.2.2 HL.out hr3 ⟨ho3.os, ho3.tape, ho3.output, ho3.size, ho3.block⟩; have d5 := hd3.1; have f5 := hd3.2.1; have HF := hidden_ hd3.2.2; clear hr3 ho3 hd3 kd))
      go_end0
      refine ⟨rfl, a, c, HF.out.1, ?_, (fun k hk => .inl hk), HF.out.2.2⟩
      have := HF.out.2.1
      simp only [← HF0.out, HN.out] at this
      exact this

theorem keep_call {g m : Nat} {s : Pl} {B : Nat} {w : World} {x b : Nat} {t : ByteArray} {wd : Nat} {q : Sq} {a : Option Addr} {c : Nat} (h : SeqAt B w x b t wd q a c) (hp : PoolAt B w b g s) (hG : Good m s) (hm : m ≤ 1000000) (hq : SqOk wd q) (k : Int) (hk : k ≤ 9223372036854775807) :
    Calls Try.prog 16 #[.pointer (some ⟨x, 0, none⟩), .int .i64 k] w fun e w' => e = .returned (.tuple #[]) ∧ Did B w x b g t wd a (keepS wd s q k) (keepQ wd q k) w' := by
  by_cases h0 : 0 ≤ k
  · exact keep_pos h hp hG hm hq k hk h0
  · exact keep_neg h hp hG hm hq k hk (by omega)

end Go.Proofs.Ytgjjeggopeppfaa

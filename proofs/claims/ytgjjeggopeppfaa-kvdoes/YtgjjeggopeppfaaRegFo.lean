/- KvDoes' region that forks. -/
import Derived.Test.YtgjjeggopeppfaaRows
import Derived.Test.YtgjjeggopeppfaaPages
import Derived.Test.YtgjjeggopeppfaaBasis
import Derived.Test.YtgjjeggopeppfaaLeast
import Derived.Test.YtgjjeggopeppfaaSeqP
import Derived.Test.YtgjjeggopeppfaaRooms
import Derived.Test.YtgjjeggopeppfaaInv
import Derived.Test.YtgjjeggopeppfaaCopyE
import Derived.Test.YtgjjeggopeppfaaDocAt
import Derived.Test.YtgjjeggopeppfaaDocKeep
import Derived.Test.YtgjjeggopeppfaaRegPg
import Derived.Test.YtgjjeggopeppfaaRegAB
import Derived.Test.YtgjjeggopeppfaaOpenOps
import Derived.Test.YtgjjeggopeppfaaFkSE
import Derived.Test.YtgjjeggopeppfaaBothIn
import Derived.WalkKit
import Derived.ProofKit
import Derived.OpenShut
import Derived.Below
import Derived.WalkLawsBesides
import Derived.Deep.QuietTactic
import Derived.BigQuiet
import Derived.Orders
import Derived.OwnWalk
import Derived.Maps.AppendAt
namespace Go.Proofs.Ytgjjeggopeppfaa
open Go.ChangeShapes Go.WideShapes Go.ChangeAt Go.RowKit
set_option linter.unusedVariables false
set_option linter.unusedSimpArgs false

/-- a slot that nothing done so far has written is as it was -/
def Kept2 (N : Nat) (D : Nat → Option Nat) (a0 : Act) (l : Nat → Bool) (a : Act) : Prop := ∀ s, (∀ i, i < N → l i = true → D i ≠ some s) → a.tmps.getD s undef = a0.tmps.getD s undef
theorem kept2_start (N : Nat) (D : Nat → Option Nat) (a0 : Act) : Kept2 N D a0 (fun _ => false) a0 := fun _ _ => rfl
theorem Kept2.put {N : Nat} {D : Nat → Option Nat} {a0 : Act} {l : Nat → Bool} {a : Act} (h : Kept2 N D a0 l a) {i d : Nat} {v : Value} (hD : D i = some d) (hd : d < a.tmps.size) (hi : i < N := by decide) : Kept2 N D a0 (fun j => l j || j == i) (a.put (some d) v) := fun s hs => by
  rw [get_put a d v s hd, if_neg (fun e => hs i hi (by simp) (by rw [e]; exact hD))]
  exact h s (fun j hj hl => hs j hj (by simp [hl]))
theorem type_atT {ops : Array Oper} {i : Nat} {o' : Oper} {ty : TypeId} (h : ops[i]? = some o') (ht : o'.type = ty) : ∀ o, ops[i]? = some o → o.type = ty := fun o ho => by rw [h] at ho; obtain rfl := Option.some.inj ho; exact ht
theorem tb31 : ∀ t, TB t = true ∨ t = 41 → (t == 31) = false := fun t h => by
  cases e : t == 31 with
  | false => rfl
  | true => rw [beq_iff_eq.1 e] at h; exact absurd h (by decide)
theorem tb34 : ∀ t, TB t = true ∨ t = 41 → (t == 34) = false := fun t h => by
  cases e : t == 34 with
  | false => rfl
  | true => rw [beq_iff_eq.1 e] at h; exact absurd h (by decide)
theorem run_build37 (p : Option Addr) (w : World) : (Instr.buildSlice 37 1 #[(0, .pointer p)]).run Try.prog w = .ok (.slice (some ⟨w.heap.size, 0, none⟩) 1 1) (w.alloc (.cells #[.pointer p] 31)) := by go_simp
theorem run_build38 (p : Option Addr) (w : World) : (Instr.buildSlice 38 1 #[(0, .pointer p)]).run Try.prog w = .ok (.slice (some ⟨w.heap.size, 0, none⟩) 1 1) (w.alloc (.cells #[.pointer p] 34)) := by go_simp
theorem off_append0 {Bs : Nat} {w w' : World} {e : TypeId} {v : Value} {n : Nat} {cs : List Value} (h : w.ownsRow Bs e 1 v n cs) (hg : w.grownBy w' v.ownBlock) : Off Bs (fun t => t == e) w w' := by
  refine ⟨hg.os, hg.tape, hg.output, hg.size, fun k hk hc => hg.block k hk fun x => ?_⟩
  rcases h.2 with ⟨h1, _⟩ | ⟨g, cap, cur, h1, h2, h3, h4⟩
  · subst h1
    cases x
  · subst h1
    simp only [Value.ownBlock, Option.some.injEq] at x
    subst x
    rcases hc with hc | hc
    · omega
    · have := hc e (by simp [typeOf, h3])
      simp at this
theorem run_appendQ (t e : TypeId) (hu : Try.prog.underlying t = some (.slice e)) (hinfo : (Try.prog.info? e).map (fun i => (i.zero, i.size, i.bytes)) = some (some (.pointer none), 1, 8)) {B : Nat} {w : World} {a : Option Addr} {n c : Nat} {X : Nat → Nat} (h : w.ownsRow B e 1 (.slice a n c) n (ptrs X n)) (hn : n ≤ 10) (hB : B ≤ w.heap.size) {g1 x : Nat} (hg1 : w.heap[g1]? = some (.cells #[.pointer (some ⟨x, 0, none⟩)] e (0, 0))) :
    ∃ a' c' W2, (Builtin.append_ #[t, t] t #[.slice a n c, .slice (some ⟨g1, 0, none⟩) 1 1]).run Try.prog w = .ok (.slice a' (n + 1) c') W2 ∧ W2.ownsRow B e 1 (.slice a' (n + 1) c') (n + 1) (ptrs (upd X n x) (n + 1)) ∧ Off B (fun t => t == e) w W2 := by
  obtain ⟨i0, hi, hz0, hz1, hz2⟩ := info_parts hinfo
  have hc : w.cell? ⟨g1, 0, none⟩ = some (.pointer (some ⟨x, 0, none⟩)) := by unfold World.cell?; rw [hg1]; rfl
  obtain ⟨v', W3, hr, ho, hg, _, _⟩ := run_append_own_at (P := Try.prog) (w := w) B t t e i0 _ 1 8 hu hi hz0 hz1 hz2 rfl (by decide) _ n _ h ⟨g1, 0, none⟩ 1 1 [.pointer (some ⟨x, 0, none⟩)] rfl (fun j u hj => by
    match j, hj with
    | 0, hj => simp at hj; subst hj; rw [add_nought']; exact hc) (one_ptr x) (by unfold maxLen; omega) (by omega) hB
  obtain ⟨a', c', rfl⟩ := own_form ho
  exact ⟨a', c', W3, hr, by rw [ptrs_snoc]; exact ho, off_append0 h hg⟩
def foD (i : Nat) : Option Nat := match i with | 0 => some 143 | 1 => some 144 | 2 => some 145 | 3 => some 146 | 4 => some 147 | 5 => some 148 | 6 => some 149 | 7 => some 150 | 8 => some 151 | 9 => some 152 | 10 => some 153 | 11 => some 154 | 12 => some 16 | 13 => some 17 | _ => none
theorem foD_inj : ∀ i, i < 14 → ∀ j, j < 14 → foD i = foD j → foD i ≠ none → i = j := by decide
theorem foD_lt : ∀ i, i < 14 → ∀ d, foD i = some d → d < 155 := by
  intro i hi d h
  have : ∀ i, i < 14 → (foD i).all (fun d => decide (d < 155)) = true := by decide
  have := this i hi
  rw [h] at this
  simpa using this
def foF (x5 yk K k ck lk2 ck2 : Nat) (xa xb : Addr) (ca cb : Nat) (B : Nat) (X X2 : Nat → Nat) (w00 : World) (Pre : World → Prop) (Post : Nat → World → Prop) (l : Nat → Bool) (i : Nat) (q : Value) (w : World) : Prop := match i with
  | 0 => q = .slice (some xa) K ca
  | 1 => q = .pointer (some ⟨x5, 0, none⟩)
  | 2 => ∃ g1, q = .slice (some ⟨g1, 0, none⟩) 1 1 ∧ (l 3 = false → w.heap[g1]? = some (.cells #[.pointer (some ⟨x5, 0, none⟩)] 31 (0, 0)))
  | 3 => ∃ u3 v3, q = .slice u3 (K + 1) v3 ∧ w.ownsRow B 31 1 (.slice u3 (K + 1) v3) (K + 1) (ptrs (upd X K x5) (K + 1))
  | 4 => q = .slice (some xb) K cb
  | 5 => q = .slice (some xb) K cb
  | 6 => q = .int .i64 (k : Nat)
  | 7 => q = .pointer (some (xb.add k))
  | 8 => q = .pointer (some ⟨yk, 0, none⟩)
  | 9 => ∃ y, q = .pointer (some ⟨y, 0, none⟩) ∧ Post y w
  | 10 => ∃ y g2, q = .slice (some ⟨g2, 0, none⟩) 1 1 ∧ (l 11 = false → w.heap[g2]? = some (.cells #[.pointer (some ⟨y, 0, none⟩)] 34 (0, 0))) ∧ Post y w
  | 11 => ∃ y u4 v4, q = .slice u4 (K + 1) v4 ∧ w.ownsRow B 34 1 (.slice u4 (K + 1) v4) (K + 1) (ptrs (upd X2 K y) (K + 1)) ∧ Post y w
  | 12 => ∃ u3 v3, q = .slice u3 (K + 1) v3 ∧ w.ownsRow B 31 1 (.slice u3 (K + 1) v3) (K + 1) (ptrs (upd X K x5) (K + 1))
  | 13 => ∃ y u4 v4, q = .slice u4 (K + 1) v4 ∧ w.ownsRow B 34 1 (.slice u4 (K + 1) v4) (K + 1) (ptrs (upd X2 K y) (K + 1)) ∧ Post y w
  | _ => True
def foS (x5 yk K k ck lk2 ck2 : Nat) (xa xb : Addr) (ca cb : Nat) (B : Nat) (X X2 : Nat → Nat) (w00 : World) (Pre : World → Prop) (Post : Nat → World → Prop) (w0 : World) (l : Nat → Bool) (w : World) : Prop := (l 3 = false → w.ownsRow B 31 1 (.slice (some xa) K ca) K (ptrs X K)) ∧ (l 11 = false → w.ownsRow B 34 1 (.slice (some xb) K cb) K (ptrs X2 K)) ∧ (l 9 = false → Pre w) ∧ Below B w00 w ∧ B ≤ w.heap.size
theorem foF_off {x5 yk K k ck lk2 ck2 : Nat} {xa xb : Addr} {ca cb : Nat} {B : Nat} {X X2 : Nat → Nat} {w00 : World} {Pre : World → Prop} {Post : Nat → World → Prop} {T : TypeId → Bool} {l l' : Nat → Bool} {i : Nat} {q : Value} {w w' : World} (h : foF x5 yk K k ck lk2 ck2 xa xb ca cb B X X2 w00 Pre Post l i q w) (ho : Off B T w w') (h31 : T 31 = false) (h34 : T 34 = false) (hP : ∀ y, Post y w → Post y w') (m3 : l' 3 = l 3) (m11 : l' 11 = l 11) : foF x5 yk K k ck lk2 ck2 xa xb ca cb B X X2 w00 Pre Post l' i q w' := by
  unfold foF at h ⊢
  split
  · exact h
  · exact h
  · obtain ⟨g1, hq, hh⟩ := h; exact ⟨g1, hq, fun e => (ho.row (t := 31) (m := 1) ⟨_, hh (by rw [← m3]; exact e), rfl⟩ h31).trans (hh (by rw [← m3]; exact e))⟩
  · obtain ⟨u3, v3, hq, hh⟩ := h; exact ⟨u3, v3, hq, own_off hh ho h31⟩
  · exact h
  · exact h
  · exact h
  · exact h
  · exact h
  · obtain ⟨y, hq, hp⟩ := h; exact ⟨y, hq, hP y hp⟩
  · obtain ⟨y, g2, hq, hh, hp⟩ := h; exact ⟨y, g2, hq, fun e => (ho.row (t := 34) (m := 1) ⟨_, hh (by rw [← m11]; exact e), rfl⟩ h34).trans (hh (by rw [← m11]; exact e)), hP y hp⟩
  · obtain ⟨y, u4, v4, hq, hh, hp⟩ := h; exact ⟨y, u4, v4, hq, own_off hh ho h34, hP y hp⟩
  · obtain ⟨u3, v3, hq, hh⟩ := h; exact ⟨u3, v3, hq, own_off hh ho h31⟩
  · obtain ⟨y, u4, v4, hq, hh, hp⟩ := h; exact ⟨y, u4, v4, hq, own_off hh ho h34, hP y hp⟩
  · trivial
theorem foF_3 {x5 yk K k ck lk2 ck2 : Nat} {xa xb : Addr} {ca cb : Nat} {B : Nat} {X X2 : Nat → Nat} {w00 : World} {Pre : World → Prop} {Post : Nat → World → Prop} {T : TypeId → Bool} {l l' : Nat → Bool} {i : Nat} {q : Value} {w w' : World} (h : foF x5 yk K k ck lk2 ck2 xa xb ca cb B X X2 w00 Pre Post l i q w) (hne : i ≠ 3 ∧ i ≠ 12) (ho : Off B T w w') (h34 : T 34 = false) (hP : ∀ y, Post y w → Post y w') (m3 : l' 3 = true) (m11 : l' 11 = l 11) : foF x5 yk K k ck lk2 ck2 xa xb ca cb B X X2 w00 Pre Post l' i q w' := by
  unfold foF at h ⊢
  split
  · exact h
  · exact h
  · obtain ⟨g1, hq, _⟩ := h; exact ⟨g1, hq, fun e => by rw [m3] at e; cases e⟩
  · exact absurd rfl hne.1
  · exact h
  · exact h
  · exact h
  · exact h
  · exact h
  · obtain ⟨y, hq, hp⟩ := h; exact ⟨y, hq, hP y hp⟩
  · obtain ⟨y, g2, hq, hh, hp⟩ := h; exact ⟨y, g2, hq, fun e => (ho.row (t := 34) (m := 1) ⟨_, hh (by rw [← m11]; exact e), rfl⟩ h34).trans (hh (by rw [← m11]; exact e)), hP y hp⟩
  · obtain ⟨y, u4, v4, hq, hh, hp⟩ := h; exact ⟨y, u4, v4, hq, own_off hh ho h34, hP y hp⟩
  · exact absurd rfl hne.2
  · obtain ⟨y, u4, v4, hq, hh, hp⟩ := h; exact ⟨y, u4, v4, hq, own_off hh ho h34, hP y hp⟩
  · trivial
theorem foF_11 {x5 yk K k ck lk2 ck2 : Nat} {xa xb : Addr} {ca cb : Nat} {B : Nat} {X X2 : Nat → Nat} {w00 : World} {Pre : World → Prop} {Post : Nat → World → Prop} {T : TypeId → Bool} {l l' : Nat → Bool} {i : Nat} {q : Value} {w w' : World} (h : foF x5 yk K k ck lk2 ck2 xa xb ca cb B X X2 w00 Pre Post l i q w) (hne : i ≠ 11 ∧ i ≠ 13) (ho : Off B T w w') (h31 : T 31 = false) (hP : ∀ y, Post y w → Post y w') (m3 : l' 3 = l 3) (m11 : l' 11 = true) : foF x5 yk K k ck lk2 ck2 xa xb ca cb B X X2 w00 Pre Post l' i q w' := by
  unfold foF at h ⊢
  split
  · exact h
  · exact h
  · obtain ⟨g1, hq, hh⟩ := h; exact ⟨g1, hq, fun e => (ho.row (t := 31) (m := 1) ⟨_, hh (by rw [← m3]; exact e), rfl⟩ h31).trans (hh (by rw [← m3]; exact e))⟩
  · obtain ⟨u3, v3, hq, hh⟩ := h; exact ⟨u3, v3, hq, own_off hh ho h31⟩
  · exact h
  · exact h
  · exact h
  · exact h
  · exact h
  · obtain ⟨y, hq, hp⟩ := h; exact ⟨y, hq, hP y hp⟩
  · obtain ⟨y, g2, hq, _, hp⟩ := h; exact ⟨y, g2, hq, (fun e => by rw [m11] at e; cases e), hP y hp⟩
  · exact absurd rfl hne.1
  · obtain ⟨u3, v3, hq, hh⟩ := h; exact ⟨u3, v3, hq, own_off hh ho h31⟩
  · exact absurd rfl hne.2
  · trivial
theorem foF_9 {x5 yk K k ck lk2 ck2 : Nat} {xa xb : Addr} {ca cb : Nat} {B : Nat} {X X2 : Nat → Nat} {w00 : World} {Pre : World → Prop} {Post : Nat → World → Prop} {T : TypeId → Bool} {l l' : Nat → Bool} {i : Nat} {q : Value} {w w' : World} (h : foF x5 yk K k ck lk2 ck2 xa xb ca cb B X X2 w00 Pre Post l i q w) (hne : i ≠ 9 ∧ i ≠ 10 ∧ i ≠ 11 ∧ i ≠ 13) (ho : Off B T w w') (h31 : T 31 = false) (m3 : l' 3 = l 3) (m11 : l' 11 = l 11) : foF x5 yk K k ck lk2 ck2 xa xb ca cb B X X2 w00 Pre Post l' i q w' := by
  unfold foF at h ⊢
  split
  · exact h
  · exact h
  · obtain ⟨g1, hq, hh⟩ := h; exact ⟨g1, hq, fun e => (ho.row (t := 31) (m := 1) ⟨_, hh (by rw [← m3]; exact e), rfl⟩ h31).trans (hh (by rw [← m3]; exact e))⟩
  · obtain ⟨u3, v3, hq, hh⟩ := h; exact ⟨u3, v3, hq, own_off hh ho h31⟩
  · exact h
  · exact h
  · exact h
  · exact h
  · exact h
  · exact absurd rfl hne.1
  · exact absurd rfl hne.2.1
  · exact absurd rfl hne.2.2.1
  · obtain ⟨u3, v3, hq, hh⟩ := h; exact ⟨u3, v3, hq, own_off hh ho h31⟩
  · exact absurd rfl hne.2.2.2
  · trivial

set_option maxHeartbeats 8000000 in
theorem fo_region {id : Nat} {ops : Array Oper} {Q : Exit → Act → World → Prop} {a0 : Act} {w0 : World} (x5 yk K k ck lk2 ck2 : Nat) (xa xb : Addr) (ca cb : Nat) (B : Nat) (X X2 : Nat → Nat) (w00 : World) (Pre : World → Prop) (Post : Nat → World → Prop) (hlow : lowB ops = true) (hsz : ops.size = 14)
    (o0 : OpIn ops 0 (some 143) (.move (.tmp 16)) none []) (o1 : OpIn ops 1 (some 144) (.move (.tmp 22)) none []) (o2 : OpIn ops 2 (some 145) (.buildSlice 37 1 #[(0, .tmp 144)]) none [1]) (o3 : OpIn ops 3 (some 146) (.call { callee := .builtin .append, args := #[.tmp 143, .tmp 145], argTypes := #[37, 37] }) none [0, 2]) (o4 : OpIn ops 4 (some 147) (.move (.tmp 17)) none []) (o5 : OpIn ops 5 (some 148) (.move (.tmp 17)) none []) (o6 : OpIn ops 6 (some 149) (.move (.tmp 20)) none []) (o7 : OpIn ops 7 (some 150) (.indexAddr 38 (.tmp 148) (.tmp 149)) none [5, 6]) (o8 : OpIn ops 8 (some 151) (.load 34 (.tmp 150)) none [7]) (o9 : OpIn ops 9 (some 152) (.call { callee := .value (.func 15), args := #[.tmp 151], argTypes := #[34] }) none [8]) (o10 : OpIn ops 10 (some 153) (.buildSlice 38 1 #[(0, .tmp 152)]) none [9]) (o11 : OpIn ops 11 (some 154) (.call { callee := .builtin .append, args := #[.tmp 147, .tmp 153], argTypes := #[38, 38] }) none [4, 10]) (o12 : OpIn ops 12 (some 16) (.assign (.tmp 146)) none [3]) (o13 : OpIn ops 13 (some 17) (.assign (.tmp 154)) none [11])
    (hS : foS x5 yk K k ck lk2 ck2 xa xb ca cb B X X2 w00 Pre Post w0 (fun _ => false) w0.drew)
    (x7 : ∀ w, (Instr.indexAt 38 (.slice (some xb) K cb) (.int .i64 (k : Nat))).run Try.prog w = .ok (.pointer (some (xb.add k))) w)
    (x8 : ∀ l w, foS x5 yk K k ck lk2 ck2 xa xb ca cb B X X2 w00 Pre Post w0 l w → l 11 = false → (Instr.loadAt 34 (.pointer (some (xb.add k)))).run Try.prog w = .ok (.pointer (some ⟨yk, 0, none⟩)) w)
    (u16 : a0.tmps.getD 16 undef = .slice (some xa) K ca)
    (u17 : a0.tmps.getD 17 undef = .slice (some xb) K cb)
    (u20 : a0.tmps.getD 20 undef = .int .i64 (k : Nat))
    (u22 : a0.tmps.getD 22 undef = .pointer (some ⟨x5, 0, none⟩))
    (hK : K ≤ 10) (hty3 : ∀ o, ops[3]? = some o → o.type = 37) (hty11 : ∀ o, ops[11]? = some o → o.type = 38)
    (hPre : ∀ {T : TypeId → Bool} {w w' : World}, Off B T w w' → (∀ t, TB t = true ∨ t = 41 → T t = false) → Pre w → Pre w')
    (hPost : ∀ (y : Nat) {T : TypeId → Bool} {w w' : World}, Off B T w w' → (∀ t, TB t = true ∨ t = 41 → T t = false) → Post y w → Post y w')
    (h15 : ∀ w, Pre w → Calls Try.prog 15 #[.pointer (some ⟨yk, 0, none⟩)] w fun e W' => ∃ y, e = .returned (.pointer (some ⟨y, 0, none⟩)) ∧ Post y W' ∧ Off B TQ w W')
    (hs : 155 ≤ a0.tmps.size)
    (fin : ∀ l a w, (∀ j, j < 14 → l j = true) → a.tmps.size = a0.tmps.size → a.defers = a0.defers → (∀ s, (∀ i, i < 14 → foD i ≠ some s) → a.tmps.getD s undef = a0.tmps.getD s undef) → foS x5 yk K k ck lk2 ck2 xa xb ca cb B X X2 w00 Pre Post w0 l w → (∀ i d, i < 14 → foD i = some d → foF x5 yk K k ck lk2 ck2 xa xb ca cb B X X2 w00 Pre Post l i (a.tmps.getD d undef) w) → Q .normal a w) : (Code.region id ops true).wp Try.prog Q a0 w0 := by
  have r15 : ∀ args w, (callFunc 15 args).run Try.prog w = .ok (.enter 15 args) w := enters_of Try.func15 (by kernel_rfl) rfl
  refine wp_region_inv2 (by kernel_rfl) hlow (Inv 14 foD a0 (fun l a w => foS x5 yk K k ck lk2 ck2 xa xb ca cb B X X2 w00 Pre Post w0 l w ∧ Kept2 14 foD a0 l a) (foF x5 yk K k ck lk2 ck2 xa xb ca cb B X X2 w00 Pre Post)) (Inv.start ⟨hS, kept2_start _ _ _⟩) ?_ ?_
  · intro l i o a w ho hl hcl hdep hI
    have hi : i < 14 := by rw [← hsz]; exact (Array.getElem?_eq_some_iff.1 ho).1
    have ev : ∀ (s : Nat), a.eval (.tmp s) = a.tmps.getD s undef := fun _ => rfl
    have evf : ∀ f, a.eval (.func f) = .func (.func f) #[] #[] := fun _ => rfl
    have evc : ∀ c : Value, a.eval (.const c) = c := fun _ => rfl
    have inj : ∀ d, foD i = some d → ∀ j d', j < 14 → foD j = some d' → j ≠ i → d' ≠ d := fun d hd j d' hj hd' hne e => hne (foD_inj j hj i hi (by rw [hd', hd, e]) (by rw [hd']; simp))
    have kp : ∀ s, (∀ i, i < 14 → foD i ≠ some s) → a.tmps.getD s undef = a0.tmps.getD s undef := hI.kept
    have hw : foS x5 yk K k ck lk2 ck2 xa xb ca cb B X X2 w00 Pre Post w0 l w := hI.world.1
    have k2 := hI.world.2
    have tb31 : ∀ t, TB t = true ∨ t = 41 → (t == 31) = false := tb31
    have tb34 : ∀ t, TB t = true ∨ t = 41 → (t == 34) = false := tb34
    have oth : ∀ j, j ≠ i → (l j || j == i) = l j := fun j hj => by rw [show (j == i) = false by simp [hj], Bool.or_false]
    have sam : (l i || i == i) = true := by simp
    have go : ∀ {d : Nat} {v : Value}, foD i = some d → (i ≠ 3 ∧ i ≠ 9 ∧ i ≠ 11) → foF x5 yk K k ck lk2 ck2 xa xb ca cb B X X2 w00 Pre Post (fun j => l j || j == i) i v w → Inv 14 foD a0 (fun l a w => foS x5 yk K k ck lk2 ck2 xa xb ca cb B X X2 w00 Pre Post w0 l w ∧ Kept2 14 foD a0 l a) (foF x5 yk K k ck lk2 ck2 xa xb ca cb B X X2 w00 Pre Post) (fun j => l j || j == i) (a.put (some d) v) w := by
      intro d v hD hn hF
      refine hI.put hi hD (Nat.lt_of_lt_of_le (foD_lt i hi d hD) hs) (inj d hD) ⟨?_, k2.put hD (by rw [hI.size]; exact Nat.lt_of_lt_of_le (foD_lt i hi d hD) hs) hi⟩ hF (fun j u _ _ _ hf => ?_)
      · show foS x5 yk K k ck lk2 ck2 xa xb ca cb B X X2 w00 Pre Post w0 _ w
        unfold foS at hw ⊢
        dsimp only
        rw [oth 3 (by omega), oth 9 (by omega), oth 11 (by omega)]
        exact hw
      · unfold foF at hf ⊢
        dsimp only
        rw [oth 3 (by omega), oth 11 (by omega)]
        exact hf
    rcases (show i = 0 ∨ i = 1 ∨ i = 2 ∨ i = 3 ∨ i = 4 ∨ i = 5 ∨ i = 6 ∨ i = 7 ∨ i = 8 ∨ i = 9 ∨ i = 10 ∨ i = 11 ∨ i = 12 ∨ i = 13 by omega) with rfl | rfl | rfl | rfl | rfl | rfl | rfl | rfl | rfl | rfl | rfl | rfl | rfl | rfl
    · obtain ⟨o', e1, e2, e3, e4, e5⟩ := o0
      obtain rfl := Option.some.inj (ho.symm.trans e1)
      have dp := dep_of' e5 hdep
      have U16 : a.tmps.getD 16 undef = .slice (some xa) K ca := (k2 16 (fun j hj hjl e => by
        obtain rfl := foD_inj j hj 12 (by decide) (e.trans rfl) (by rw [e]; simp)
        have y0 := hcl.dep' o12 hjl 3 (by decide)
        have y1 := hcl.dep' o3 y0 0 (by decide)
        rw [hl] at y1
        cases y1)).trans u16
      exact wpOp_value (v := .slice (some xa) K ca) (w' := w) ho e4 (by simp [execOp, e3, ev, evc, U16]) (by rw [e2]; exact go rfl (by decide) rfl)
    · obtain ⟨o', e1, e2, e3, e4, e5⟩ := o1
      obtain rfl := Option.some.inj (ho.symm.trans e1)
      have dp := dep_of' e5 hdep
      have U22 : a.tmps.getD 22 undef = .pointer (some ⟨x5, 0, none⟩) := (kp 22 (by decide)).trans u22
      exact wpOp_value (v := .pointer (some ⟨x5, 0, none⟩)) (w' := w) ho e4 (by simp [execOp, e3, ev, evc, U22]) (by rw [e2]; exact go rfl (by decide) rfl)
    · obtain ⟨o', e1, e2, e3, e4, e5⟩ := o2
      obtain rfl := Option.some.inj (ho.symm.trans e1)
      have dp := dep_of' e5 hdep
      have V1 : a.tmps.getD 144 undef = .pointer (some ⟨x5, 0, none⟩) := hI.val 1 144 (by decide) rfl (dp 1 (by decide))
      have n3 : l 3 = false := by
        cases e : l 3 with
        | false => rfl
        | true =>
          exfalso
          have y0 := hcl.dep' o3 e 2 (by decide)
          rw [hl] at y0
          cases y0
      have hb1 := below_new (Below.refl w.heap.size w) (.cells #[.pointer (some ⟨x5, 0, none⟩)] 31)
      have ho1 : Off B (fun _ => false) w (w.alloc (.cells #[.pointer (some ⟨x5, 0, none⟩)] 31)) := Off.of_below hb1
      refine wpOp_value (v := .slice (some ⟨w.heap.size, 0, none⟩) 1 1) (w' := w.alloc (.cells #[.pointer (some ⟨x5, 0, none⟩)] 31)) ho e4 (by simp [execOp, e3, ev , V1, run_build37]) ?_
      rw [e2]
      refine hI.put hi rfl (Nat.lt_of_lt_of_le (by decide) hs) (inj 145 rfl) ⟨?_, k2.put rfl (by rw [hI.size]; exact (Nat.lt_of_lt_of_le (by decide) hs))⟩ ?_ (fun j u _ _ hne hf => foF_off hf ho1 rfl rfl (fun y z => hPost y ho1 (fun _ _ => rfl) z) (oth 3 (by decide)) (oth 11 (by decide)))
      · show foS x5 yk K k ck lk2 ck2 xa xb ca cb B X X2 w00 Pre Post w0 _ _
        unfold foS at hw ⊢
        dsimp only
        rw [oth 3 (by decide), oth 11 (by decide), oth 9 (by decide)]
        exact ⟨fun h => own_off (hw.1 h) ho1 rfl, fun h => own_off (hw.2.1 h) ho1 rfl, fun h => hPre ho1 (fun _ _ => rfl) (hw.2.2.1 h), hw.2.2.2.1.trans (ho1.below hw.2.2.2.2), Nat.le_trans hw.2.2.2.2 ho1.size⟩
      · exact ⟨_, rfl, fun _ => heap_alloc_new w _⟩
    · obtain ⟨o', e1, e2, e3, e4, e5⟩ := o3
      obtain rfl := Option.some.inj (ho.symm.trans e1)
      have dp := dep_of' e5 hdep
      have V0 : a.tmps.getD 143 undef = .slice (some xa) K ca := hI.val 0 143 (by decide) rfl (dp 0 (by decide))
      obtain ⟨g1, V2, f2⟩ : ∃ g1, a.tmps.getD 145 undef = .slice (some ⟨g1, 0, none⟩) 1 1 ∧ (l 3 = false → w.heap[g1]? = some (.cells #[.pointer (some ⟨x5, 0, none⟩)] 31 (0, 0))) := hI.val 2 145 (by decide) rfl (dp 2 (by decide))
      obtain ⟨u3, v3, W2, hap, hrow, ho1⟩ := run_appendQ 37 31 Try.underlying37 info31 (hw.1 hl) hK hw.2.2.2.2 (f2 hl)
      refine wpOp_value (v := .slice u3 (K + 1) v3) (w' := W2) ho e4 (by simp only [execOp, e3, resolve, invoke, builtin, Sem.run_bind, Sem.run_pure, Result.andThen_ok, List.map_toArray, List.map_cons, List.map_nil, ev , V0, V2, hty3 _ ho, hap]) ?_
      rw [e2]
      refine hI.put hi rfl (Nat.lt_of_lt_of_le (by decide) hs) (inj 146 rfl) ⟨?_, k2.put rfl (by rw [hI.size]; exact (Nat.lt_of_lt_of_le (by decide) hs))⟩ ?_ (fun j u _ hjd hne hf => foF_3 hf ⟨hne, (fun z => by subst z; have y0 := hcl.dep' o12 hjd 3 (by decide); rw [hl] at y0; cases y0)⟩ ho1 rfl (fun y z => hPost y ho1 tb31 z) sam (oth 11 (by decide)))
      · show foS x5 yk K k ck lk2 ck2 xa xb ca cb B X X2 w00 Pre Post w0 _ _
        unfold foS at hw ⊢
        dsimp only
        rw [sam, oth 11 (by decide), oth 9 (by decide)]
        exact ⟨(fun h => by cases h), fun h => own_off (hw.2.1 h) ho1 rfl, fun h => hPre ho1 tb31 (hw.2.2.1 h), hw.2.2.2.1.trans (ho1.below hw.2.2.2.2), Nat.le_trans hw.2.2.2.2 ho1.size⟩
      · exact ⟨_, _, rfl, hrow⟩
    · obtain ⟨o', e1, e2, e3, e4, e5⟩ := o4
      obtain rfl := Option.some.inj (ho.symm.trans e1)
      have dp := dep_of' e5 hdep
      have U17 : a.tmps.getD 17 undef = .slice (some xb) K cb := (k2 17 (fun j hj hjl e => by
        obtain rfl := foD_inj j hj 13 (by decide) (e.trans rfl) (by rw [e]; simp)
        have y0 := hcl.dep' o13 hjl 11 (by decide)
        have y1 := hcl.dep' o11 y0 4 (by decide)
        rw [hl] at y1
        cases y1)).trans u17
      exact wpOp_value (v := .slice (some xb) K cb) (w' := w) ho e4 (by simp [execOp, e3, ev, evc, U17]) (by rw [e2]; exact go rfl (by decide) rfl)
    · obtain ⟨o', e1, e2, e3, e4, e5⟩ := o5
      obtain rfl := Option.some.inj (ho.symm.trans e1)
      have dp := dep_of' e5 hdep
      have U17 : a.tmps.getD 17 undef = .slice (some xb) K cb := (k2 17 (fun j hj hjl e => by
        obtain rfl := foD_inj j hj 13 (by decide) (e.trans rfl) (by rw [e]; simp)
        have y0 := hcl.dep' o13 hjl 11 (by decide)
        have y1 := hcl.dep' o11 y0 10 (by decide)
        have y2 := hcl.dep' o10 y1 9 (by decide)
        have y3 := hcl.dep' o9 y2 8 (by decide)
        have y4 := hcl.dep' o8 y3 7 (by decide)
        have y5 := hcl.dep' o7 y4 5 (by decide)
        rw [hl] at y5
        cases y5)).trans u17
      exact wpOp_value (v := .slice (some xb) K cb) (w' := w) ho e4 (by simp [execOp, e3, ev, evc, U17]) (by rw [e2]; exact go rfl (by decide) rfl)
    · obtain ⟨o', e1, e2, e3, e4, e5⟩ := o6
      obtain rfl := Option.some.inj (ho.symm.trans e1)
      have dp := dep_of' e5 hdep
      have U20 : a.tmps.getD 20 undef = .int .i64 (k : Nat) := (kp 20 (by decide)).trans u20
      exact wpOp_value (v := .int .i64 (k : Nat)) (w' := w) ho e4 (by simp [execOp, e3, ev, evc, U20]) (by rw [e2]; exact go rfl (by decide) rfl)
    · obtain ⟨o', e1, e2, e3, e4, e5⟩ := o7
      obtain rfl := Option.some.inj (ho.symm.trans e1)
      have dp := dep_of' e5 hdep
      have V5 : a.tmps.getD 148 undef = .slice (some xb) K cb := hI.val 5 148 (by decide) rfl (dp 5 (by decide))
      have V6 : a.tmps.getD 149 undef = .int .i64 (k : Nat) := hI.val 6 149 (by decide) rfl (dp 6 (by decide))
      exact wpOp_value (v := .pointer (some (xb.add k))) (w' := w) ho e4 (by simp [execOp, e3, ev, evc, V5, V6, x7 w]) (by rw [e2]; exact go rfl (by decide) rfl)
    · obtain ⟨o', e1, e2, e3, e4, e5⟩ := o8
      obtain rfl := Option.some.inj (ho.symm.trans e1)
      have dp := dep_of' e5 hdep
      have V7 : a.tmps.getD 150 undef = .pointer (some (xb.add k)) := hI.val 7 150 (by decide) rfl (dp 7 (by decide))
      have n11 : l 11 = false := by
        cases e : l 11 with
        | false => rfl
        | true =>
          exfalso
          have y0 := hcl.dep' o11 e 10 (by decide)
          have y1 := hcl.dep' o10 y0 9 (by decide)
          have y2 := hcl.dep' o9 y1 8 (by decide)
          rw [hl] at y2
          cases y2
      exact wpOp_value (v := .pointer (some ⟨yk, 0, none⟩)) (w' := w) ho e4 (by simp [execOp, e3, ev, evc, V7, x8 l w hw n11]) (by rw [e2]; exact go rfl (by decide) rfl)
    · obtain ⟨o', e1, e2, e3, e4, e5⟩ := o9
      obtain rfl := Option.some.inj (ho.symm.trans e1)
      have dp := dep_of' e5 hdep
      have V8 : a.tmps.getD 151 undef = .pointer (some ⟨yk, 0, none⟩) := hI.val 8 151 (by decide) rfl (dp 8 (by decide))
      refine wpOp_call (f := 15) (args := #[.pointer (some ⟨yk, 0, none⟩)]) ho e4 (by simp [execOp, e3, resolve, invoke, Deferred.ofValue, r15, ev, evf, evc, V8]) ((h15 w (hw.2.2.1 hl)).mono ?_)
      rintro e W' ⟨y, rfl, hF, ho1⟩
      refine ⟨_, rfl, ?_⟩
      rw [e2]
      refine hI.put hi rfl (Nat.lt_of_lt_of_le (by decide) hs) (inj 152 rfl) ⟨?_, k2.put rfl (by rw [hI.size]; exact (Nat.lt_of_lt_of_le (by decide) hs))⟩ ?_ (fun j u _ hjd hne hf => foF_9 hf ⟨hne, (fun z => by subst z; have y0 := hcl.dep' o10 hjd 9 (by decide); rw [hl] at y0; cases y0), (fun z => by subst z; have y0 := hcl.dep' o11 hjd 10 (by decide); have y1 := hcl.dep' o10 y0 9 (by decide); rw [hl] at y1; cases y1), (fun z => by subst z; have y0 := hcl.dep' o13 hjd 11 (by decide); have y1 := hcl.dep' o11 y0 10 (by decide); have y2 := hcl.dep' o10 y1 9 (by decide); rw [hl] at y2; cases y2)⟩ ho1 rfl (oth 3 (by decide)) (oth 11 (by decide)))
      · show foS x5 yk K k ck lk2 ck2 xa xb ca cb B X X2 w00 Pre Post w0 _ _
        unfold foS at hw ⊢
        dsimp only
        rw [oth 3 (by decide), oth 11 (by decide), sam]
        exact ⟨fun h => own_off (hw.1 h) ho1 rfl, fun h => own_off (hw.2.1 h) ho1 rfl, (fun h => by cases h), hw.2.2.2.1.trans (ho1.below hw.2.2.2.2), Nat.le_trans hw.2.2.2.2 ho1.size⟩
      · exact ⟨_, rfl, hF⟩
    · obtain ⟨o', e1, e2, e3, e4, e5⟩ := o10
      obtain rfl := Option.some.inj (ho.symm.trans e1)
      have dp := dep_of' e5 hdep
      obtain ⟨y9, V9, f9⟩ : ∃ y, a.tmps.getD 152 undef = .pointer (some ⟨y, 0, none⟩) ∧ Post y w := hI.val 9 152 (by decide) rfl (dp 9 (by decide))
      have n11 : l 11 = false := by
        cases e : l 11 with
        | false => rfl
        | true =>
          exfalso
          have y0 := hcl.dep' o11 e 10 (by decide)
          rw [hl] at y0
          cases y0
      have hb1 := below_new (Below.refl w.heap.size w) (.cells #[.pointer (some ⟨y9, 0, none⟩)] 34)
      have ho1 : Off B (fun _ => false) w (w.alloc (.cells #[.pointer (some ⟨y9, 0, none⟩)] 34)) := Off.of_below hb1
      refine wpOp_value (v := .slice (some ⟨w.heap.size, 0, none⟩) 1 1) (w' := w.alloc (.cells #[.pointer (some ⟨y9, 0, none⟩)] 34)) ho e4 (by simp [execOp, e3, ev , V9, run_build38]) ?_
      rw [e2]
      refine hI.put hi rfl (Nat.lt_of_lt_of_le (by decide) hs) (inj 153 rfl) ⟨?_, k2.put rfl (by rw [hI.size]; exact (Nat.lt_of_lt_of_le (by decide) hs))⟩ ?_ (fun j u _ _ hne hf => foF_off hf ho1 rfl rfl (fun y z => hPost y ho1 (fun _ _ => rfl) z) (oth 3 (by decide)) (oth 11 (by decide)))
      · show foS x5 yk K k ck lk2 ck2 xa xb ca cb B X X2 w00 Pre Post w0 _ _
        unfold foS at hw ⊢
        dsimp only
        rw [oth 3 (by decide), oth 11 (by decide), oth 9 (by decide)]
        exact ⟨fun h => own_off (hw.1 h) ho1 rfl, fun h => own_off (hw.2.1 h) ho1 rfl, fun h => hPre ho1 (fun _ _ => rfl) (hw.2.2.1 h), hw.2.2.2.1.trans (ho1.below hw.2.2.2.2), Nat.le_trans hw.2.2.2.2 ho1.size⟩
      · exact ⟨_, _, rfl, fun _ => heap_alloc_new w _, hPost _ ho1 (fun _ _ => rfl) f9⟩
    · obtain ⟨o', e1, e2, e3, e4, e5⟩ := o11
      obtain rfl := Option.some.inj (ho.symm.trans e1)
      have dp := dep_of' e5 hdep
      have V4 : a.tmps.getD 147 undef = .slice (some xb) K cb := hI.val 4 147 (by decide) rfl (dp 4 (by decide))
      obtain ⟨y10, g10, V10, fa10, fb10⟩ : ∃ y g2, a.tmps.getD 153 undef = .slice (some ⟨g2, 0, none⟩) 1 1 ∧ (l 11 = false → w.heap[g2]? = some (.cells #[.pointer (some ⟨y, 0, none⟩)] 34 (0, 0))) ∧ Post y w := hI.val 10 153 (by decide) rfl (dp 10 (by decide))
      obtain ⟨u4, v4, W2, hap, hrow, ho1⟩ := run_appendQ 38 34 Try.underlying38 info34 (hw.2.1 hl) hK hw.2.2.2.2 (fa10 hl)
      refine wpOp_value (v := .slice u4 (K + 1) v4) (w' := W2) ho e4 (by simp only [execOp, e3, resolve, invoke, builtin, Sem.run_bind, Sem.run_pure, Result.andThen_ok, List.map_toArray, List.map_cons, List.map_nil, ev , V4, V10, hty11 _ ho, hap]) ?_
      rw [e2]
      refine hI.put hi rfl (Nat.lt_of_lt_of_le (by decide) hs) (inj 154 rfl) ⟨?_, k2.put rfl (by rw [hI.size]; exact (Nat.lt_of_lt_of_le (by decide) hs))⟩ ?_ (fun j u _ hjd hne hf => foF_11 hf ⟨hne, (fun z => by subst z; have y0 := hcl.dep' o13 hjd 11 (by decide); rw [hl] at y0; cases y0)⟩ ho1 rfl (fun y z => hPost y ho1 tb34 z) (oth 3 (by decide)) sam)
      · show foS x5 yk K k ck lk2 ck2 xa xb ca cb B X X2 w00 Pre Post w0 _ _
        unfold foS at hw ⊢
        dsimp only
        rw [oth 3 (by decide), sam, oth 9 (by decide)]
        exact ⟨fun h => own_off (hw.1 h) ho1 rfl, (fun h => by cases h), fun h => hPre ho1 tb34 (hw.2.2.1 h), hw.2.2.2.1.trans (ho1.below hw.2.2.2.2), Nat.le_trans hw.2.2.2.2 ho1.size⟩
      · exact ⟨_, _, _, rfl, hrow, hPost _ ho1 tb34 fb10⟩
    · obtain ⟨o', e1, e2, e3, e4, e5⟩ := o12
      obtain rfl := Option.some.inj (ho.symm.trans e1)
      have dp := dep_of' e5 hdep
      obtain ⟨u33, v33, V3, f3⟩ : ∃ u3 v3, a.tmps.getD 146 undef = .slice u3 (K + 1) v3 ∧ w.ownsRow B 31 1 (.slice u3 (K + 1) v3) (K + 1) (ptrs (upd X K x5) (K + 1)) := hI.val 3 146 (by decide) rfl (dp 3 (by decide))
      exact wpOp_value (v := .slice u33 (K + 1) v33) (w' := w) ho e4 (by simp [execOp, e3, ev, evc, V3]) (by rw [e2]; exact go rfl (by decide) ⟨_, _, rfl, f3⟩)
    · obtain ⟨o', e1, e2, e3, e4, e5⟩ := o13
      obtain rfl := Option.some.inj (ho.symm.trans e1)
      have dp := dep_of' e5 hdep
      obtain ⟨y11, u411, v411, V11, fa11, f11⟩ : ∃ y u4 v4, a.tmps.getD 154 undef = .slice u4 (K + 1) v4 ∧ w.ownsRow B 34 1 (.slice u4 (K + 1) v4) (K + 1) (ptrs (upd X2 K y) (K + 1)) ∧ Post y w := hI.val 11 154 (by decide) rfl (dp 11 (by decide))
      exact wpOp_value (v := .slice u411 (K + 1) v411) (w' := w) ho e4 (by simp [execOp, e3, ev, evc, V11]) (by rw [e2]; exact go rfl (by decide) ⟨_, _, _, rfl, fa11, f11⟩)
  · intro l a w hall hI
    have all : ∀ j, j < 14 → l j = true := fun j hj => hall j (by rw [hsz]; exact hj)
    exact fin l a w all hI.size hI.defers hI.kept hI.world.1 (fun i d hi hD => hI.val i d hi hD (all i hi))

end Go.Proofs.Ytgjjeggopeppfaa

/- The document appends a row: the contract of its Append. -/
import Derived.Test.YtgjjeggopeppfaaRows
import Derived.Test.YtgjjeggopeppfaaPages
import Derived.Test.YtgjjeggopeppfaaBasis
import Derived.Test.YtgjjeggopeppfaaLeast
import Derived.Test.YtgjjeggopeppfaaLays
import Derived.Test.YtgjjeggopeppfaaTurns
import Derived.Test.YtgjjeggopeppfaaGoods
import Derived.Test.YtgjjeggopeppfaaRefA
import Derived.Test.YtgjjeggopeppfaaRefTk
import Derived.Test.YtgjjeggopeppfaaRefLays
import Derived.Test.YtgjjeggopeppfaaRefTurns
import Derived.Test.YtgjjeggopeppfaaLies
import Derived.Test.YtgjjeggopeppfaaSeqP
import Derived.Test.YtgjjeggopeppfaaSeqRN
import Derived.Test.YtgjjeggopeppfaaReadsB
import Derived.Test.YtgjjeggopeppfaaForks
import Derived.Test.YtgjjeggopeppfaaRooms
import Derived.Test.YtgjjeggopeppfaaDocAt
import Derived.Test.YtgjjeggopeppfaaDocRd
import Derived.Test.YtgjjeggopeppfaaDocKeep
import Derived.Test.YtgjjeggopeppfaaRegPg
import Derived.Test.YtgjjeggopeppfaaRegAB
import Derived.Test.YtgjjeggopeppfaaDocAp0
import Derived.Test.YtgjjeggopeppfaaSmalls
import Derived.Test.YtgjjeggopeppfaaDocAppN
import Derived.Test.YtgjjeggopeppfaaDocAppE
import Derived.Test.YtgjjeggopeppfaaDocAppW
import Derived.Test.YtgjjeggopeppfaaDocAppF
import Derived.WalkKit
import Derived.ProofKit
import Derived.OpenShut
import Derived.Below
import Derived.WalkLawsBesides
import Derived.Deep.QuietTactic
import Derived.BigQuiet
import Derived.Deep.RegionHeld3
import Derived.Deep.RegionWith
namespace Go.Proofs.Ytgjjeggopeppfaa
open Go.ChangeShapes Go.WideShapes Go.ChangeAt Go.RowKit
set_option linter.unusedVariables false
set_option linter.unusedSimpArgs false

theorem rapp_call {g m : Nat} {s : Pl} {r0 : Nat → Nat} {B : Nat} {w : World} {x b : Nat} {t : ByteArray} {wd : Nat} {q : Sq} {a : Option Addr} {c : Nat} (h : DocAt B w x b t wd q a c) (hp : RefAt B w b g s r0) (hG : Good m s) (hm : 1 ≤ m ∧ m ≤ 1000000) (hq : SqOk wd q) (hn : q.n < 1000) (ra : Option Addr) (rl rc : Nat) (zs : List Int) (hr : Apart B w ra rl zs s r0) :
    Calls Try.prog 13 #[.pointer (some ⟨x, 0, none⟩), .slice ra rl rc] w fun e w' => e = .returned (.int .i64 (appE wd t s q zs)) ∧ DidR B w x b g t wd a (appS wd t s q zs) (appQ wd t s q zs) w' := by
  have hlen := hr.reads.len
  have hmx := hr.reads.max
  by_cases hw : rl = wd
  · subst hw
    have hE : appE rl t s q zs = roomE rl t s q := by unfold appE; rw [if_neg (by omega)]
    unfold appS appQ
    rw [hE]
    by_cases h0 : roomE rl t s q = 0
    · rw [if_pos h0, if_pos h0, h0]
      by_cases hnd : needB rl s q = true
      · have hte := roomE_zero h0 hnd
        by_cases hf : fitB rl q = true
        · exact rapp_fit h hp hG hm hq hn ra rc zs hr h0 rfl rfl hnd hte hf
        · exact rapp_new h hp hG hm hq hn ra rc zs hr h0 rfl rfl hnd hte (by simpa using hf)
      · exact rapp_no h hp hG hm hq hn ra rc zs hr h0 rfl rfl (by simpa using hnd)
    · rw [if_neg h0, if_neg h0]
      have hnd : needB rl s q = true := by
        by_cases e : needB rl s q = true
        · exact e
        · exact absurd (show roomE rl t s q = 0 by unfold roomE; rw [if_neg e]) h0
      have e : roomE rl t s q = takeE s t 1 := by unfold roomE; rw [if_pos hnd]
      rw [e] at h0 ⊢
      exact rapp_err h hp hG hm hq hn ra rc zs hr hnd h0
  · have hE : appE wd t s q zs = 21 := by unfold appE; rw [if_pos (by omega)]
    unfold appS appQ
    rw [hE, if_neg (by decide), if_neg (by decide)]
    exact rapp_len (m := m) h hp hq.w1 ra rl rc (by omega) hw

end Go.Proofs.Ytgjjeggopeppfaa

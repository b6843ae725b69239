/- Texts put together. -/
import Derived.Test.YthliomlmhfjhnaaGreatZp22
import Derived.Test.YthliomlmhfjhnaaGreatZp19
namespace Go.Proofs.YthliomlmhfjhnaaGreat
set_option maxRecDepth 20000
set_option maxHeartbeats 16000000
open Go.ChangeShapes Go.WideShapes Go.ChangeAt Go.RowKit
set_option linter.unusedVariables false
set_option linter.unusedSimpArgs false
theorem Qn4 (a0:Option Addr)(n0 c0:Nat)(ro:List Int)(a1:Option Addr)(n c1:Nat)(A1:Nat→Option Addr)(C1:Nat→Nat)(U:Nat→List Int)(a2:Option Addr)(m c2:Nat)(A2:Nat→Option Addr)(C2:Nat→Nat)(D:Nat→List Int)(h k:Int)(a5:Option Addr)(n5 c5:Nat)(xs:List Int)(w:World)(h0:Reads .i8 w a0 n0 ro)(l0:n0≤c0)(g1:Nets w a1 n A1 C1 U)(g2:Nets w a2 m A2 C2 D)(h5:Reads .i64 w a5 n5 xs)(wh:(Lit.int .i64 h).wf=true)(wk:(Lit.int .i64 k).wf=true)(b0:n0*8≤140737488355328)(b1:n*24≤140737488351232)(b5:n5*8≤140737488355328)(hE:mixE ro n m U D h k xs=0) :
  Calls Tryz.prog 123 #[.slice a0 n0 c0,.slice a1 n c1,.slice a2 m c2,I4 h,I4 k,.slice a5 n5 c5] w fun e w'=>(∃ a c,e=.returned (.slice a n5 c)∧Reads .i64 w' a n5 (mixL ro n U D k xs))∧Bw w w':=by
 unfold mixE at hE
 by_cases c1':n=0∨n≠m
 ·rw[if_pos c1'] at hE
  exact absurd hE (by decide)
 ·rw[if_neg c1'] at hE
  have hm:n=m:=by omega
  unfold mixL
  by_cases c2':n=1
  ·rw[if_pos c2'] at hE ⊢
   cases hf:oneB (U 0) (D 0) h xs with
   | true=>exact (Qif a0 n0 c0 ro a1 n c1 A1 C1 U a2 m c2 A2 C2 D h k a5 n5 c5 xs w h0 l0 g1 g2 h5 wh wk b0 b1 b5 c2' (by omega) hf).mono fun e w' ⟨⟨a,he,hr⟩,hb⟩=>⟨⟨some a,n5,he,hr⟩,hb⟩
   | false =>
    rw[hf] at hE
    exact absurd hE (by decide)
  ·rw[if_neg c2'] at hE ⊢
   cases hf:Qbh ro n k xs with
   | false =>
    rw[if_pos hf] at hE
    exact absurd hE (Qgt hf)
   | true =>
    rw[if_neg (by rw[hf];decide)] at hE
    cases hr:QhR ro U D h k.toNat xs with
    | true=>exact Qnf a0 n0 c0 ro a1 n c1 A1 C1 U a2 m c2 A2 C2 D h k a5 n5 c5 xs w h0 l0 g1 g2 h5 wh wk b0 b1 b5 (by omega) hm hf hr
    | false =>
     rw[hr] at hE
     exact absurd hE (by decide)
theorem QnF (a0:Option Addr)(n0 c0:Nat)(ro:List Int)(a1:Option Addr)(n c1:Nat)(A1:Nat→Option Addr)(C1:Nat→Nat)(U:Nat→List Int)(a2:Option Addr)(m c2:Nat)(A2:Nat→Option Addr)(C2:Nat→Nat)(D:Nat→List Int)(h k:Int)(a5:Option Addr)(n5 c5:Nat)(xs:List Int)(w:World)(h0:Reads .i8 w a0 n0 ro)(l0:n0≤c0)(g1:Nets w a1 n A1 C1 U)(g2:Nets w a2 m A2 C2 D)(h5:Reads .i64 w a5 n5 xs)(wh:(Lit.int .i64 h).wf=true)(wk:(Lit.int .i64 k).wf=true)(b0:n0*8≤140737488355328)(b1:n*24≤140737488351232)(b5:n5*8≤140737488355328)(hE:mixE ro n m U D h k xs=0) :
  Calls Tryz.prog 100 #[.slice a0 n0 c0,.slice a1 n c1,.slice a2 m c2,I4 h,I4 k,.slice a5 n5 c5] w fun e w'=>(∃ a c,e=.returned (.tuple #[.slice a n5 c,I4 0])∧Reads .i64 w' a n5 (mixL ro n U D k xs))∧Bw w w':=by
 have hmf:∀ (fn:Fn) (first cap:Array Value) (w:World),(Instr.makeFunc fn first cap).run Tryz.prog w=.ok (.func fn first cap) w:=fun _ _ _ _=>rfl
 have ko:Calls Tryz.prog 123 #[.slice a0 n0 c0,.slice a1 n c1,.slice a2 m c2,I4 h,I4 k,.slice a5 n5 c5] (w.alloc (.cells #[I4 0] 35)) fun e W1=>∃ a c,e=.returned (.slice a n5 c)∧(W1.cell? ⟨w.heap.size,0,none⟩=some (I4 0)∧W1.frozen? ⟨w.heap.size,0,none⟩=false) ∧
   Hid (Reads .i64 W1 a n5 (mixL ro n U D k xs)∧Bw w W1):=by
  have bn:=bNw (bS w) (.cells #[I4 0] 35)
  refine (Qn4 a0 n0 c0 ro a1 n c1 A1 C1 U a2 m c2 A2 C2 D h k a5 n5 c5 xs _ (h0.below bn) l0 (g1.below bn) (g2.below bn) (h5.below bn) wh wk b0 b1 b5 hE).mono ?_
  rintro e W1 ⟨⟨a,c,rfl,hr⟩,hb⟩
  obtain⟨q1,q2,q3⟩:=Qmx hb
  exact⟨a,c,rfl,⟨q1,q2⟩,hr,q3⟩
 go_enter_defers Tryz.func100,Tryz.ntmps100
 go_wp2_with (go_at_call 123;refine ko.mono ?_;rintro e W1 ⟨a,c,rfl,⟨q1,q2⟩,H⟩)
 refine leaves_cons (f:=121) (args:=#[Pt w.heap.size]) (by simp) (by simp[go_sem]) ?_
 rw[sSa q1]
 refine (Qhk ⟨w.heap.size,0,none⟩ 0 _ q1 q2).mono ?_
 rintro e u' w'' ⟨rfl,rfl,rfl⟩
 rw[sSa q1]
 simp[Leaves,settle,results,Tryz.results100,go_sem,q1]
 exact H.out
end Go.Proofs.YthliomlmhfjhnaaGreat

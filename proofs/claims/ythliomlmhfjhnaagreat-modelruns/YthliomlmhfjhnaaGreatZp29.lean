/- Texts put together. -/
import Derived.Test.YthliomlmhfjhnaaGreatZp15
import Derived.Test.YthliomlmhfjhnaaGreatZp18
import Derived.Test.YthliomlmhfjhnaaGreatZp13
namespace Go.Proofs.YthliomlmhfjhnaaGreat
set_option maxRecDepth 20000
set_option maxHeartbeats 16000000
open Go.ChangeShapes Go.WideShapes Go.ChangeAt Go.RowKit
set_option linter.unusedVariables false
set_option linter.unusedSimpArgs false
theorem Qjk (a0:Option Addr)(n0 c0:Nat)(ro:List Int)(a1:Option Addr)(n c1:Nat)(A1:Nat→Option Addr)(C1:Nat→Nat)(U:Nat→List Int)(a2:Option Addr)(m c2:Nat)(A2:Nat→Option Addr)(C2:Nat→Nat)(D:Nat→List Int)(h k:Int)(a5:Option Addr)(n5 c5:Nat)(xs:List Int)(w:World)(h0:Reads .i8 w a0 n0 ro)(l0:n0≤c0)(g1:Nets w a1 n A1 C1 U)(g2:Nets w a2 m A2 C2 D)(h5:Reads .i64 w a5 n5 xs)(wh:(Lit.int .i64 h).wf=true)(wk:(Lit.int .i64 k).wf=true)(b0:n0*8≤140737488355328)(b1:n*24≤140737488351232)(b5:n5*8≤140737488355328)(hn:n=1)(hm:m=1) :
  Calls Tryz.prog 71 #[.slice a0 n0 c0,.slice a1 n c1,.slice a2 m c2,I4 h,I4 k,.slice a5 n5 c5] w fun e w'=>(∃ a j c,e=.returned (.tuple #[.slice a j c,I4 (if oneB (U 0) (D 0) h xs then 0 else 21)])∧Reads .i64 w' a j (if oneB (U 0) (D 0) h xs then oneL (U 0) (D 0) xs else []))∧Bw w w':=by
 subst hn
 subst hm
 obtain⟨x,rfl⟩:=g1.grid.some_ (by omega)
 obtain⟨y,rfl⟩:=g2.grid.some_ (by omega)
 have cx:=fun (W:World) (hb:Bw w W)=>(g1.grid.below hb).cell x rfl 0 (by omega)
 have cy:=fun (W:World) (hb:Bw w W)=>(g2.grid.below hb).cell y rfl 0 (by omega)
 simp only[Addr.add_zero'] at cx cy
 have ko:=fun (W:World) (hb:Bw w W)=>QhY (A1 0) (U 0).length (C1 0) (U 0) (A2 0) (D 0).length (C2 0) (D 0) h a5 n5 c5 xs W ((g1.grid.row 0 (by omega)).below hb) (g1.cap 0 (by omega)) ((g2.grid.row 0 (by omega)).below hb) (g2.cap 0 (by omega)) (h5.below hb) wh (g1.bnd 0 (by omega)) (g2.bnd 0 (by omega))
 obtain⟨EE,eE⟩:∃ EE,(if oneB (U 0) (D 0) h xs then (0:Int) else 21)=EE:=⟨_,rfl⟩
 obtain⟨O,eO⟩:∃ O,(if oneB (U 0) (D 0) h xs then oneL (U 0) (D 0) xs else [])=O:=⟨_,rfl⟩
 rw[eE,eO] at ko ⊢
 clear eE eO
 go_enter Tryz.func71,Tryz.ntmps71
 go_wp2
 refine QkL x y 1 c1 c2 (U 0).length (C1 0) (D 0).length (C2 0) n5 c5 (A1 0) (A2 0) a5 h O EE (fun W=>Bw w W) (by kernel_rfl) rfl (by (repeat' apply And.intro)<;>exact⟨_,rfl,rfl,rfl,rfl,by kernel_rfl⟩) bR.drew (QbG _ _ _ (by omega)) (fun W hb=>Qag (cx W hb)) (QbG _ _ _ (by omega)) (fun W hb=>Qag (cy W hb)) (fun W hb=>(ko W hb).mono fun e w' ⟨⟨b,bn,bc,q1,q2⟩,q5⟩=>⟨b,bn,bc,q1,q2,q5,bTn hb q5⟩) rfl rfl rfl rfl (Nat.le_of_ble_eq_true rfl) ?_
 intro a W9 hs hd hkp hS9 hval
 have e13:a.tmps.getD 13 undef=I4 EE:=hval 12 13 (by decide) rfl
 obtain⟨b9,n9,c9,e12,f12⟩:=hval 11 12 (by decide) rfl
 obtain⟨f,ef,ep⟩:=fPz [36,37,38,39,40,41,42,43,44,45,46,12,13] rfl hs hd hkp
 simp only[ef] at e13 e12
 simp only[List.foldl,e13,e12,Act.put,List.setIfInBounds_toArray,List.set_cons_succ,List.set_cons_zero] at ep
 have H9:=hdn hS9
 clear hs hd hkp hval hS9 e13 e12 ef
 subst ep
 go_wp2
 go_ret2
 exact⟨⟨_,_,_,rfl,f12⟩,H9.out⟩
end Go.Proofs.YthliomlmhfjhnaaGreat

/- Texts put together. -/
import Derived.Test.YthliomlmhfjhnaaGreatRows
import Derived.Test.YthliomlmhfjhnaaGreatZf24
import Derived.Maps.AppendAt
namespace Go.Proofs.YthliomlmhfjhnaaGreat
set_option maxRecDepth 20000
set_option maxHeartbeats 16000000
open Go.ChangeShapes Go.WideShapes Go.ChangeAt Go.RowKit
set_option linter.unusedVariables false
set_option linter.unusedSimpArgs false
section
theorem inRange_walk (B:Bool)(R S d h l v u x t n:Int)(w:World)
  (k36:∀ w,Calls Tryz.prog 35 #[.agg #[.int .i64 d,.int .i64 h,.int .i64 l,.int .i64 v,.int .i64 u,.int .i64 x,.int .i64 t,.int .i64 n]] w fun e w'=>e=.returned (.bool B)∧Below w.heap.size w w') (V:Bool) (hV:(B && (decide (1≤R) && (decide (R≤4) && (decide (0≤S) && decide (S≤8)))))=V) :
  Calls Tryz.prog 90 #[.int .i64 R,.int .i64 S,.agg #[.int .i64 d,.int .i64 h,.int .i64 l,.int .i64 v,.int .i64 u,.int .i64 x,.int .i64 t,.int .i64 n]] w fun e w'=>e=.returned (.bool V)∧Below w.heap.size w w':=by
 have hb:=bNw (Below.refl w.heap.size w) (.cells #[.int .i64 d,.int .i64 h,.int .i64 l,.int .i64 v,.int .i64 u,.int .i64 x,.int .i64 t,.int .i64 n] 23)
 subst hV
 cases B with
 | false =>
  go_enter Tryz.func90,Tryz.ntmps90
  go_wp2_with (first|(go_at_call 35;refine (k36 _).mono ?_;rintro e W1 ⟨rfl,h1⟩;replace hb:=bTn hb h1;clear h1))
  go_ret
  exact⟨rfl,hb⟩
 | true =>
  by_cases r1:1≤R
  ·by_cases r2:R≤4
   ·by_cases r3:0≤S
    ·simp only[r1,r2,r3,decide_true,Bool.true_and]
     go_enter Tryz.func90,Tryz.ntmps90
     go_wp2_with (first|(go_at_call 35;refine (k36 _).mono ?_;rintro e W1 ⟨rfl,h1⟩;replace hb:=bTn hb h1;clear h1))
     go_ret
     exact⟨rfl,hb⟩
    ·simp only[r1,r2,r3,decide_true,decide_false,Bool.and_false,Bool.false_and]
     go_enter Tryz.func90,Tryz.ntmps90
     go_wp2_with (first|(go_at_call 35;refine (k36 _).mono ?_;rintro e W1 ⟨rfl,h1⟩;replace hb:=bTn hb h1;clear h1))
     go_ret
     exact⟨rfl,hb⟩
   ·simp only[r1,r2,decide_true,decide_false,Bool.and_false,Bool.false_and]
    go_enter Tryz.func90,Tryz.ntmps90
    go_wp2_with (first|(go_at_call 35;refine (k36 _).mono ?_;rintro e W1 ⟨rfl,h1⟩;replace hb:=bTn hb h1;clear h1))
    go_ret
    exact⟨rfl,hb⟩
  ·simp only[r1,decide_false,Bool.and_false,Bool.false_and]
   go_enter Tryz.func90,Tryz.ntmps90
   go_wp2_with (first|(go_at_call 35;refine (k36 _).mono ?_;rintro e W1 ⟨rfl,h1⟩;replace hb:=bTn hb h1;clear h1))
   go_ret
   exact⟨rfl,hb⟩
theorem inRange_call (R S d h l v u x t n:Int)(w:World) :
  Calls Tryz.prog 90 #[.int .i64 R,.int .i64 S,.agg #[.int .i64 d,.int .i64 h,.int .i64 l,.int .i64 v,.int .i64 u,.int .i64 x,.int .i64 t,.int .i64 n]] w fun e w'=>e=.returned (.bool (okA R S d h l v u x t n))∧Below w.heap.size w w' :=
 inRange_walk (okB d h l v u x t n) R S d h l v u x t n w (config_call d h l v u x t n) _ rfl
theorem refRanges_walk (B:Bool)(R S d h l v u x t n:Int)(w:World)
  (k41:∀ w,Calls Tryz.prog 36 #[.agg #[.int .i64 d,.int .i64 h,.int .i64 l,.int .i64 v,.int .i64 u,.int .i64 x,.int .i64 t,.int .i64 n]] w fun e w'=>e=.returned (.bool B)∧Below w.heap.size w w') (V:Bool) (hV:(B && (decide (1≤R) && (decide (R≤4) && (decide (0≤S) && decide (S≤8)))))=V) :
  Calls Tryz.prog 83 #[.int .i64 R,.int .i64 S,.agg #[.int .i64 d,.int .i64 h,.int .i64 l,.int .i64 v,.int .i64 u,.int .i64 x,.int .i64 t,.int .i64 n]] w fun e w'=>e=.returned (.bool V)∧Below w.heap.size w w':=by
 have hb:=bNw (Below.refl w.heap.size w) (.cells #[.int .i64 d,.int .i64 h,.int .i64 l,.int .i64 v,.int .i64 u,.int .i64 x,.int .i64 t,.int .i64 n] 23)
 subst hV
 cases B with
 | false =>
  go_enter Tryz.func83,Tryz.ntmps83
  go_wp2_with (first|(go_at_call 36;refine (k41 _).mono ?_;rintro e W1 ⟨rfl,h1⟩;replace hb:=bTn hb h1;clear h1))
  go_ret
  exact⟨rfl,hb⟩
 | true =>
  by_cases r1:1≤R
  ·by_cases r2:R≤4
   ·by_cases r3:0≤S
    ·simp only[r1,r2,r3,decide_true,Bool.true_and]
     go_enter Tryz.func83,Tryz.ntmps83
     go_wp2_with (first|(go_at_call 36;refine (k41 _).mono ?_;rintro e W1 ⟨rfl,h1⟩;replace hb:=bTn hb h1;clear h1))
     go_ret
     exact⟨rfl,hb⟩
    ·simp only[r1,r2,r3,decide_true,decide_false,Bool.and_false,Bool.false_and]
     go_enter Tryz.func83,Tryz.ntmps83
     go_wp2_with (first|(go_at_call 36;refine (k41 _).mono ?_;rintro e W1 ⟨rfl,h1⟩;replace hb:=bTn hb h1;clear h1))
     go_ret
     exact⟨rfl,hb⟩
   ·simp only[r1,r2,decide_true,decide_false,Bool.and_false,Bool.false_and]
    go_enter Tryz.func83,Tryz.ntmps83
    go_wp2_with (first|(go_at_call 36;refine (k41 _).mono ?_;rintro e W1 ⟨rfl,h1⟩;replace hb:=bTn hb h1;clear h1))
    go_ret
    exact⟨rfl,hb⟩
  ·simp only[r1,decide_false,Bool.and_false,Bool.false_and]
   go_enter Tryz.func83,Tryz.ntmps83
   go_wp2_with (first|(go_at_call 36;refine (k41 _).mono ?_;rintro e W1 ⟨rfl,h1⟩;replace hb:=bTn hb h1;clear h1))
   go_ret
   exact⟨rfl,hb⟩
theorem refRanges_call (R S d h l v u x t n:Int)(w:World) :
  Calls Tryz.prog 83 #[.int .i64 R,.int .i64 S,.agg #[.int .i64 d,.int .i64 h,.int .i64 l,.int .i64 v,.int .i64 u,.int .i64 x,.int .i64 t,.int .i64 n]] w fun e w'=>e=.returned (.bool (okA R S d h l v u x t n))∧Below w.heap.size w w' :=
 refRanges_walk (okB d h l v u x t n) R S d h l v u x t n w (refConfig_call d h l v u x t n) _ rfl
structure RightA (R S d l:Int):Prop where
 r0:1≤R
 r1:R≤4
 s0:0≤S
 s1:S≤8
 d0:2≤d
 d1:d≤8
 l0:1≤l
 l1:l≤2
theorem listSize_call (R d h l v u x t n:Int)(N:Int)(hN:R*d=N)(h0:-9223372036854775808≤N)(h1:N≤9223372036854775807)(w:World) :
  Calls Tryz.prog 92 #[.int .i64 R,.agg #[.int .i64 d,.int .i64 h,.int .i64 l,.int .i64 v,.int .i64 u,.int .i64 x,.int .i64 t,.int .i64 n]] w fun e w'=>e=.returned (.int .i64 N)∧Below w.heap.size w w':=by
 have hb:=bNw (Below.refl w.heap.size w) (.cells #[.int .i64 d,.int .i64 h,.int .i64 l,.int .i64 v,.int .i64 u,.int .i64 x,.int .i64 t,.int .i64 n] 23)
 go_enter Tryz.func92,Tryz.ntmps92
 go_wp2
 go_ret
 exact⟨rfl,hb⟩
theorem info120:(Tryz.prog.info? 120).map (fun i=>(i.zero,i.size,i.bytes))=some (some (.pointer none),1,8):=by kernel_rfl
theorem index_all (p0 p1 p2 p3:Value):(∀ w:World,(Instr.index 125 (.agg #[p0,p1,p2,p3]) (.int .i64 0)).run Tryz.prog w=.ok p0 w)∧(∀ w:World,(Instr.index 125 (.agg #[p0,p1,p2,p3]) (.int .i64 1)).run Tryz.prog w=.ok p1 w)∧(∀ w:World,(Instr.index 125 (.agg #[p0,p1,p2,p3]) (.int .i64 2)).run Tryz.prog w=.ok p2 w)∧(∀ w:World,(Instr.index 125 (.agg #[p0,p1,p2,p3]) (.int .i64 3)).run Tryz.prog w=.ok p3 w):=by
 obtain⟨i,hi,hzz⟩:=Option.map_eq_some_iff.1 info120
 simp only[Prod.mk.injEq] at hzz
 refine⟨?_,?_,?_,?_⟩<;>intro w<;>simp[Instr.index,run_underlying Tryz.underlying125,asIntOf,go_sem,typeInfo,sizeOf,hi,hzz.2.1]
theorem lists_call (P:Addr)(w:World):Calls Tryz.prog 91 #[.pointer (some P)] w fun e w'=>e=.returned (.agg #[.pointer (some P),.pointer (some ⟨P.block,P.off+1,none⟩),.pointer (some ⟨P.block,P.off+2,none⟩),.pointer (some ⟨P.block,P.off+3,none⟩)])∧Below w.heap.size w w':=by
 go_enter Tryz.func91,Tryz.ntmps91
 go_wp2
 go_region_held3 (fun W=>True) (trivial) (first|fail)
 go_wp2
 refine bodyPost_ret (v:=.agg #[.pointer (some P),.pointer (some ⟨P.block,P.off+1,none⟩),.pointer (some ⟨P.block,P.off+2,none⟩),.pointer (some ⟨P.block,P.off+3,none⟩)]) ?_ rfl ⟨rfl,below_drew (bNw (Below.refl _ w) _) ⟨1,rfl⟩⟩
 simp[results,Tryz.results91,go_sem]
end
section
open Go.ChangeShapes Go.WideShapes Go.ChangeAt Go.RowKit Go.Sort
theorem check_no (R S d h l v u x t n:Int)(La:Option Addr)(ml Lc:Nat)(w:World)
  (k32:∀ w,Calls Tryz.prog 90 #[.int .i64 R,.int .i64 S,.agg #[.int .i64 d,.int .i64 h,.int .i64 l,.int .i64 v,.int .i64 u,.int .i64 x,.int .i64 t,.int .i64 n]] w fun e w'=>e=.returned (.bool false)∧Below w.heap.size w w') :
  Calls Tryz.prog 55 #[.agg #[.int .i64 R,.int .i64 S,.slice La ml Lc],.agg #[.int .i64 d,.int .i64 h,.int .i64 l,.int .i64 v,.int .i64 u,.int .i64 x,.int .i64 t,.int .i64 n]] w fun e w'=>e=.returned (.int .i64 20)∧Below w.heap.size w w':=by
 have hb:=bNw (bNw (Below.refl w.heap.size w) (.cells #[.int .i64 R,.int .i64 S,.slice La ml Lc] 30)) (.cells #[.int .i64 d,.int .i64 h,.int .i64 l,.int .i64 v,.int .i64 u,.int .i64 x,.int .i64 t,.int .i64 n] 23)
 have qa:Blk 30 ((w.alloc (.cells #[.int .i64 R,.int .i64 S,.slice La ml Lc] 30)).alloc (.cells #[.int .i64 d,.int .i64 h,.int .i64 l,.int .i64 v,.int .i64 u,.int .i64 x,.int .i64 t,.int .i64 n] 23)) w.heap.size #[.int .i64 R,.int .i64 S,.slice La ml Lc]:=(Blk.new 30 w _).kept (bNw (Below.refl _ _) _)
 have qc:Blk 23 ((w.alloc (.cells #[.int .i64 R,.int .i64 S,.slice La ml Lc] 30)).alloc (.cells #[.int .i64 d,.int .i64 h,.int .i64 l,.int .i64 v,.int .i64 u,.int .i64 x,.int .i64 t,.int .i64 n] 23)) (w.heap.size+1) #[.int .i64 d,.int .i64 h,.int .i64 l,.int .i64 v,.int .i64 u,.int .i64 x,.int .i64 t,.int .i64 n]:=Blk.new_at 23 (w.alloc _) _ _ (by simp)
 obtain⟨a0,a1,a2⟩:=qa.c3
 obtain⟨c0,c1,c2,c3,c4,c5,c6,c7⟩:=qc.cfg
 go_enter Tryz.func55,Tryz.ntmps55
 go_wp2_with (first|(go_at_call 90;refine (k32 _).mono ?_;rintro e W1 ⟨rfl,h1⟩;replace qa:=qa.kept h1;replace qc:=qc.kept h1;replace hb:=bTn hb h1;clear h1 a0 a1 a2 c0 c1 c2 c3 c4 c5 c6 c7;obtain⟨a0,a1,a2⟩:=qa.c3;obtain⟨c0,c1,c2,c3,c4,c5,c6,c7⟩:=qc.cfg))
 go_ret
 exact⟨rfl,hb⟩
theorem check_few (R S d h l v u x t n:Int)(La:Option Addr)(ml Lc:Nat)(w:World)(g:((ml:Int)==l)=false)
  (k32:∀ w,Calls Tryz.prog 90 #[.int .i64 R,.int .i64 S,.agg #[.int .i64 d,.int .i64 h,.int .i64 l,.int .i64 v,.int .i64 u,.int .i64 x,.int .i64 t,.int .i64 n]] w fun e w'=>e=.returned (.bool true)∧Below w.heap.size w w') :
  Calls Tryz.prog 55 #[.agg #[.int .i64 R,.int .i64 S,.slice La ml Lc],.agg #[.int .i64 d,.int .i64 h,.int .i64 l,.int .i64 v,.int .i64 u,.int .i64 x,.int .i64 t,.int .i64 n]] w fun e w'=>e=.returned (.int .i64 21)∧Below w.heap.size w w':=by
 have hb:=bNw (bNw (Below.refl w.heap.size w) (.cells #[.int .i64 R,.int .i64 S,.slice La ml Lc] 30)) (.cells #[.int .i64 d,.int .i64 h,.int .i64 l,.int .i64 v,.int .i64 u,.int .i64 x,.int .i64 t,.int .i64 n] 23)
 have qa:Blk 30 ((w.alloc (.cells #[.int .i64 R,.int .i64 S,.slice La ml Lc] 30)).alloc (.cells #[.int .i64 d,.int .i64 h,.int .i64 l,.int .i64 v,.int .i64 u,.int .i64 x,.int .i64 t,.int .i64 n] 23)) w.heap.size #[.int .i64 R,.int .i64 S,.slice La ml Lc]:=(Blk.new 30 w _).kept (bNw (Below.refl _ _) _)
 have qc:Blk 23 ((w.alloc (.cells #[.int .i64 R,.int .i64 S,.slice La ml Lc] 30)).alloc (.cells #[.int .i64 d,.int .i64 h,.int .i64 l,.int .i64 v,.int .i64 u,.int .i64 x,.int .i64 t,.int .i64 n] 23)) (w.heap.size+1) #[.int .i64 d,.int .i64 h,.int .i64 l,.int .i64 v,.int .i64 u,.int .i64 x,.int .i64 t,.int .i64 n]:=Blk.new_at 23 (w.alloc _) _ _ (by simp)
 obtain⟨a0,a1,a2⟩:=qa.c3
 obtain⟨c0,c1,c2,c3,c4,c5,c6,c7⟩:=qc.cfg
 go_enter Tryz.func55,Tryz.ntmps55
 go_wp2_with (first|(go_at_call 90;refine (k32 _).mono ?_;rintro e W1 ⟨rfl,h1⟩;replace qa:=qa.kept h1;replace qc:=qc.kept h1;replace hb:=bTn hb h1;clear h1 a0 a1 a2 c0 c1 c2 c3 c4 c5 c6 c7;obtain⟨a0,a1,a2⟩:=qa.c3;obtain⟨c0,c1,c2,c3,c4,c5,c6,c7⟩:=qc.cfg))
 go_ret
 exact⟨rfl,hb⟩
theorem check_loop (R S d h v u x t n:Int)(x0:Addr)(ml Lc:Nat)(L:SL)(Y:Nat→Nat→SL)(m:AdV)(w:World)(hM:AdAt w L Y m)(eA:L.a=some x0)(hml:m.ln=ml)(hl:ml≤1000000)(N V:Int)
  (no:∀ i,i<ml→∀ j,j<4→((Y i j).n:Int)≠N→V=21) (yes:(∀ i,i<ml→∀ j,j<4→((Y i j).n:Int)=N)→V=0)
  (k32:∀ w,Calls Tryz.prog 90 #[.int .i64 R,.int .i64 S,.agg #[.int .i64 d,.int .i64 h,.int .i64 (ml:Int),.int .i64 v,.int .i64 u,.int .i64 x,.int .i64 t,.int .i64 n]] w fun e w'=>e=.returned (.bool true)∧Below w.heap.size w w')
  (k34:∀ w,Calls Tryz.prog 92 #[.int .i64 R,.agg #[.int .i64 d,.int .i64 h,.int .i64 (ml:Int),.int .i64 v,.int .i64 u,.int .i64 x,.int .i64 t,.int .i64 n]] w fun e w'=>e=.returned (.int .i64 N)∧Below w.heap.size w w') :
  Calls Tryz.prog 55 #[.agg #[.int .i64 R,.int .i64 S,.slice (some x0) ml Lc],.agg #[.int .i64 d,.int .i64 h,.int .i64 (ml:Int),.int .i64 v,.int .i64 u,.int .i64 x,.int .i64 t,.int .i64 n]] w fun e w'=>e=.returned (.int .i64 V)∧Below w.heap.size w w':=by
 have hb:=bNw (bNw (Below.refl w.heap.size w) (.cells #[.int .i64 R,.int .i64 S,.slice (some x0) ml Lc] 30)) (.cells #[.int .i64 d,.int .i64 h,.int .i64 (ml:Int),.int .i64 v,.int .i64 u,.int .i64 x,.int .i64 t,.int .i64 n] 23)
 have qa:Blk 30 ((w.alloc (.cells #[.int .i64 R,.int .i64 S,.slice (some x0) ml Lc] 30)).alloc (.cells #[.int .i64 d,.int .i64 h,.int .i64 (ml:Int),.int .i64 v,.int .i64 u,.int .i64 x,.int .i64 t,.int .i64 n] 23)) w.heap.size #[.int .i64 R,.int .i64 S,.slice (some x0) ml Lc]:=(Blk.new 30 w _).kept (bNw (Below.refl _ _) _)
 have qc:Blk 23 ((w.alloc (.cells #[.int .i64 R,.int .i64 S,.slice (some x0) ml Lc] 30)).alloc (.cells #[.int .i64 d,.int .i64 h,.int .i64 (ml:Int),.int .i64 v,.int .i64 u,.int .i64 x,.int .i64 t,.int .i64 n] 23)) (w.heap.size+1) #[.int .i64 d,.int .i64 h,.int .i64 (ml:Int),.int .i64 v,.int .i64 u,.int .i64 x,.int .i64 t,.int .i64 n]:=Blk.new_at 23 (w.alloc _) _ _ (by simp)
 obtain⟨a0,a1,a2⟩:=qa.c3
 obtain⟨c0,c1,c2,c3,c4,c5,c6,c7⟩:=qc.cfg
 have HM:=hdn hM
 have HN:=hdn no
 have HY:=hdn yes
 have HL:=hdn hml
 have HA:=hdn eA
 clear hM no yes hml eA
 go_enter Tryz.func55,Tryz.ntmps55
 go_wp2_with (first|(go_at_call 90;refine (k32 _).mono ?_;rintro e W1 ⟨rfl,h1⟩;replace qa:=qa.kept h1;replace qc:=qc.kept h1;replace hb:=bTn hb h1;clear h1 a0 a1 a2 c0 c1 c2 c3 c4 c5 c6 c7;obtain⟨a0,a1,a2⟩:=qa.c3;obtain⟨c0,c1,c2,c3,c4,c5,c6,c7⟩:=qc.cfg))
 have HB:=hdn (And.intro hb (And.intro qa qc))
 clear hb qa qc a0 a1 a2 c0 c1 c2 c3 c4 c5 c6 c7 k32
 go_loopw [24] (fun i wr=>∃ k:Nat,k≤ml∧i=.int .i64 k∧Below w.heap.size w wr∧Blk 30 wr w.heap.size #[.int .i64 R,.int .i64 S,.slice (some x0) ml Lc]∧Blk 23 wr (w.heap.size+1) #[.int .i64 d,.int .i64 h,.int .i64 (ml:Int),.int .i64 v,.int .i64 u,.int .i64 x,.int .i64 t,.int .i64 n]∧Hid (∀ i,i<k→∀ j,j<4→((Y i j).n:Int)=N)) (fun i _=>ml-(intOf i).toNat)
 case atStart=>exact⟨0,Nat.zero_le _,rfl,HB.out.1,HB.out.2.1,HB.out.2.2,fun i hi=>absurd hi (Nat.not_lt_zero _)⟩
 case round =>
  clear HB
  obtain⟨k,hk,rfl,hb,qa,qc,good⟩:=hrel
  by_cases hlt:k<ml
  ·have hlt':(k:Int)<(ml:Int):=by omega
   obtain⟨a0,a1,a2⟩:=qa.c3
   have hc:=HM.out.cell x0 HA.out k (by rw[HL.out];exact hlt)
   obtain⟨P,eP⟩:∃ P,x0.add (k*4)=P:=⟨_,rfl⟩
   rw[eP] at hc
   have HC:=hdn hc
   clear hc
   have k33:=lists_call P
   go_wp2_with (first|(go_at_call 91;refine (k33 _).mono ?_;rintro e W2 ⟨rfl,h2⟩;replace qa:=qa.kept h2;replace qc:=qc.kept h2;replace hb:=bTn hb h2;clear h2 a0 a1 a2))
   obtain⟨i0,i1,i2,i3⟩:=index_all (.pointer (some P)) (.pointer (some ⟨P.block,P.off+1,none⟩)) (.pointer (some ⟨P.block,P.off+2,none⟩)) (.pointer (some ⟨P.block,P.off+3,none⟩))
   have ix:Hid (∀ j,j<4→∀ w:World,(Instr.index 125 (.agg #[.pointer (some P),.pointer (some ⟨P.block,P.off+1,none⟩),.pointer (some ⟨P.block,P.off+2,none⟩),.pointer (some ⟨P.block,P.off+3,none⟩)]) (.int .i64 (j:Nat))).run Tryz.prog w=.ok (.pointer (some (P.add j))) w):=fun j hj=>by
    rcases (show j=0∨j=1∨j=2∨j=3 by omega) with rfl|rfl|rfl|rfl
    ·exact i0
    ·exact i1
    ·exact i2
    ·exact i3
   clear i0 i1 i2 i3 k33 eP
   have HB:=hdn (And.intro hb (And.intro qa qc))
   clear hb qa qc
   go_loopw [32] (fun i wr=>∃ j:Nat,j≤4∧i=.int .i64 j∧Below w.heap.size w wr∧Blk 30 wr w.heap.size #[.int .i64 R,.int .i64 S,.slice (some x0) ml Lc]∧Blk 23 wr (w.heap.size+1) #[.int .i64 d,.int .i64 h,.int .i64 (ml:Int),.int .i64 v,.int .i64 u,.int .i64 x,.int .i64 t,.int .i64 n]∧Hid (∀ i,i<j→((Y k i).n:Int)=N)) (fun i _=>4-(intOf i).toNat)
   case atStart=>exact⟨0,Nat.zero_le _,rfl,HB.out.1,HB.out.2.1,HB.out.2.2,fun i hi=>absurd hi (Nat.not_lt_zero _)⟩
   case round =>
    clear HB
    obtain⟨j,hj,rfl,hb,qa,qc,goodj⟩:=hrel
    by_cases hjt:j<4
    ·have hjt':(j:Int)<4:=by omega
     have ij:=ix.out j hjt
     have hc:=HC.out j hjt
     have hc':=((hb.cell (World.block_lt_of_cell? w _ hc)).trans hc)
     obtain⟨Q,eQ⟩:∃ Q,P.add j=Q:=⟨_,rfl⟩
     rw[eQ] at ij hc'
     obtain⟨SA,SN,SC,eS⟩:∃ SA SN SC,Y k j=⟨SA,SN,SC⟩:=⟨(Y k j).a,(Y k j).n,(Y k j).c,rfl⟩
     rw[eS] at hc'
     have cq:wr.cell? Q=some (.slice SA SN SC):=hc'
     have eN:(Y k j).n=SN:=by rw[eS]
     have EN:=hdn eN
     clear hc hc' eQ eS eN
     have kn':∀ d' os,Calls Tryz.prog 92 #[.int .i64 R,.agg #[.int .i64 d,.int .i64 h,.int .i64 (ml:Int),.int .i64 v,.int .i64 u,.int .i64 x,.int .i64 t,.int .i64 n]] (grow (redrawn wr d') os) fun e w''=>e=.returned (.int .i64 N)∧∃ p:Regrown,w''=grow (redrawn wr p.d) p.os:=fun d' os =>
      Calls.regrown_of ((k34 _).mono fun e w' he=>⟨he.1,he.2⟩)
     obtain⟨a0,a1,a2⟩:=qa.c3
     obtain⟨c0,c1,c2,c3,c4,c5,c6,c7⟩:=qc.cfg
     replace cq:=cell_regrown cq
     replace a0:=cell_regrown a0
     replace c0:=cell_regrown c0
     replace c1:=cell_regrown c1
     replace c2:=cell_regrown c2
     replace c3:=cell_regrown c3
     replace c4:=cell_regrown c4
     replace c5:=cell_regrown c5
     replace c6:=cell_regrown c6
     replace c7:=cell_regrown c7
     clear a1 a2
     by_cases g1:(SN:Int)=N
     ·have g1':((SN:Int) != N)=false:=by simp[g1]
      have good':Hid (∀ i,i<j+1→((Y k i).n:Int)=N):=fun i hi=>by
       by_cases e:i=j
       ·subst e;rw[EN.out];exact g1
       ·exact goodj.out i (by omega)
      clear g1 goodj
      go_wp2
      refine wp_region_quiet_below (by kernel_rfl) (by kernel_rfl) ?_
      repeat (go_big_quiet_step (first|(go_at_call 92;exact kn' _ _)))
      refine wpQuiet_nil ?_
      intro _ hw'
      obtain⟨⟨dq,osq⟩,hw''⟩:=hw'
      subst hw''
      have hbq:=below_regrown wr dq osq
      replace qa:=qa.kept hbq
      replace qc:=qc.kept hbq
      replace hb:=bTn hb hbq
      clear hbq kn' cq a0 c0 c1 c2 c3 c4 c5 c6 c7 ij
      go_wp2
      go_roundw
      case rel=>exact⟨j+1,by omega,by go_num,hb,qa,qc,good'⟩
      case measure=>simp[intOf];omega
     ·have g1':((SN:Int) != N)=true:=by simp[g1]
      have e:=HN.out k hlt j hjt (by rw[EN.out];exact g1)
      clear g1 goodj
      subst e
      go_wp2
      refine wp_region_quiet_below (by kernel_rfl) (by kernel_rfl) ?_
      repeat (go_big_quiet_step (first|(go_at_call 92;exact kn' _ _)))
      refine wpQuiet_nil ?_
      intro _ hw'
      obtain⟨⟨dq,osq⟩,hw''⟩:=hw'
      subst hw''
      have hbq:=below_regrown wr dq osq
      replace hb:=bTn hb hbq
      clear hbq kn' cq a0 c0 c1 c2 c3 c4 c5 c6 c7 ij
      go_wp2
      go_ret
      exact⟨rfl,hb⟩
    ·have e:j=4:=by omega
     subst e
     have good':Hid (∀ i,i<k+1→∀ j,j<4→((Y i j).n:Int)=N):=fun i hi j hj=>by
      by_cases e:i=k
      ·subst e;exact goodj.out j hj
      ·exact good.out i (by omega) j hj
     clear goodj
     go_wp2
     go_roundw
     case rel=>exact⟨k+1,by omega,by go_num,hb,qa,qc,good'⟩
     case measure=>simp[intOf];omega
  ·have e:k=ml:=by omega
   subst e
   have e:=HY.out good.out
   subst e
   go_wp2
   go_ret
   exact⟨rfl,hb⟩
theorem rightA_of {R S d h l v u x t n:Int}(ok:okA R S d h l v u x t n=true):RightA R S d l:=by
 unfold okA okB headsB at ok
 simp only[Bool.and_eq_true,decide_eq_true_eq] at ok
 constructor<;>omega
theorem grcheck_call (R S d h l v u x t n:Int)(L:SL)(Y:Nat→Nat→SL)(m:AdV)(w:World)(hM:AdAt w L Y m) :
  Calls Tryz.prog 55 #[.agg #[.int .i64 R,.int .i64 S,.slice L.a L.n L.c],.agg #[.int .i64 d,.int .i64 h,.int .i64 l,.int .i64 v,.int .i64 u,.int .i64 x,.int .i64 t,.int .i64 n]] w fun e w'=>e=.returned (.int .i64 (checkA R S d h l v u x t n m))∧Below w.heap.size w w':=by
 have k32:=inRange_call R S d h l v u x t n
 unfold checkA
 cases ok:okA R S d h l v u x t n with
 | false =>
  rw[if_neg (by simp)]
  simp only[ok] at k32
  exact check_no R S d h l v u x t n L.a L.n L.c w k32
 | true =>
  rw[if_pos rfl]
  simp only[ok] at k32
  have r:=rightA_of ok
  have r0:=r.r0
  have r1:=r.r1
  have d0:=r.d0
  have d1:=r.d1
  have l0:=r.l0
  have l1:=r.l1
  by_cases e:(m.ln:Int)=l
  ·have hn:L.n=m.ln:=hM.len
   obtain⟨x0,ex⟩:=hM.some_ (by omega)
   have hp:0≤R*d:=Int.mul_nonneg (by omega) (by omega)
   have hp':R*d≤4*8:=Int.mul_le_mul r1 d1 (by omega) (by omega)
   have k34:=listSize_call R d h l v u x t n (R*d) rfl (by omega) (by omega)
   have hlen:∀ i,i<m.ln→∀ j,j<4→(Y i j).n=(m.f i j).length:=fun i hi j hj=>(hM.lay i hi j hj).reads.len.symm
   have key:=fun V no yes=>check_loop R S d h v u x t n x0 L.n L.c L Y m w hM ex hn.symm (by omega) (R*d) V no yes
   rw[show ((L.n:Nat):Int)=l by omega] at key
   rw[hn] at key ⊢
   rw[ex]
   refine key _ (fun i hi j hj hne=>?_) (fun hall=>?_) k32 k34
   ·rw[if_neg]
    rintro⟨_,hq⟩
    exact hne (by rw[hlen i hi j hj];exact lensA_iff.1 hq i hi j hj)
   ·rw[if_pos ⟨e,lensA_iff.2 fun i hi j hj=>by rw[←hlen i hi j hj];exact hall i hi j hj⟩]
  ·rw[if_neg (fun k=>e k.1)]
   exact check_few R S d h l v u x t n L.a L.n L.c w (by rw[hM.len];simp[e]) k32
end
section
open Go.Sort hiding Below
def four (a b c d:SL)(r:Nat):SL:=match r with|0=>a|1=>b|2=>c|_=>d
theorem run_push (w : World) (ty : TypeId) (B k : Nat) (v : Value) (Y : Nat → Nat → SL) (f : Nat → Nat → List Int) (y : Nat → SL) (g c : Nat) (hT : TA B w v k Y f) (hc : Blk 61 w g #[(y 0).v, (y 1).v, (y 2).v, (y 3).v]) (hy : ∀ j, j < 4 → TS B w (y j) (f k j)) (hl : (k + 1) * 96 ≤ 140737488355328) (hB : B ≤ w.heap.size) :
    ∃ v' w', (Builtin.append_ #[28, 28] ty #[v, .slice (some ⟨g, 0, none⟩) 1 c]).run Tryz.prog w = .ok v' w' ∧ Below B w w' ∧ Keeps 30 w w' ∧ Keeps 113 w w' ∧ TA B w' v' (k + 1) (upd Y k y) f := by
  obtain ⟨i0, hi, hz0, hz1, hz2⟩ := i61'
  obtain ⟨v', w', hr, own', hg, _, _⟩ := run_append_own_at (P := Tryz.prog) (w := w) B 28 ty 61 i0 _ 4 96 Tryz.underlying28 hi hz0 hz1 hz2 rfl (by decide) v k _ hT.own ⟨g, 0, none⟩ 1 c ((List.range 4).map fun r => (y r).v) (by simp) (fun j u hj => by
    have e : (⟨g, 0, none⟩ : Addr).add j = ⟨g, j, none⟩ := by by_cases h : j = 0 <;> simp [Addr.add, h]
    rw [e]
    exact hc.cell j (by have hj' : [(y 0).v, (y 1).v, (y 2).v, (y 3).v][j]? = some u := hj
                        simpa using hj')) (fun u hu => by obtain ⟨r, _, rfl⟩ := List.mem_map.1 hu; rfl) (by unfold maxLen; omega) hl hB
  have k62 : Keeps 73 w w' := Keeps.of_own hg hT.own (by decide)
  refine ⟨v', w', hr, (Below.refl B w).grown hg hB fun g h => (hT.own.lt g h).1, Keeps.of_own hg hT.own (by decide), Keeps.of_own hg hT.own (by decide), ?_, fun i hi j hj => ?_⟩
  · rw [cells4_succ, upd_same, cells4_congr (Y' := Y) (fun i hi r _ => by rw [upd_other Y k y (by omega)])]
    exact own'
  · by_cases e : i = k
    · subst e
      rw [upd_same]
      exact (hy j hj).step k62
    · rw [upd_other Y k y e]
      exact (hT.lay i (by omega) j hj).step k62
theorem grwpList_layer {ops:Array Oper}{rest:List Oper}{o:Oper}{a:Act}{w:World}{Q:Exit→Act→World→Prop}(hgd:o.guard=none)(s x:Operand)(ho:o.op=.call { callee:=.builtin .append,args:=#[s,x],argTypes:=#[28,28] })
  (B k:Nat) (v:Value) (Y:Nat→Nat→SL) (f:Nat→Nat→List Int) (y:Nat→SL) (g c:Nat) (hs:a.eval s=v) (hx:a.eval x=.slice (some ⟨g,0,none⟩) 1 c) (hT:TA B w v k Y f) (hc:Blk 61 w g #[(y 0).v,(y 1).v,(y 2).v,(y 3).v]) (hy:∀ j,j<4→TS B w (y j) (f k j)) (hl:(k+1)*96≤140737488355328) (hB:B≤w.heap.size)
  (h:∀ v' w',Below B w w'→Keeps 30 w w'→Keeps 113 w w'→TA B w' v' (k+1) (upd Y k y) f→wpList Tryz.prog ops Q rest (a.put o.dst v') w'):wpList Tryz.prog ops Q (o :: rest) a w:=by
 refine wpList_plain hgd fun K hK=>?_
 obtain⟨v',w',hr,h1,h2,h3,h4⟩:=run_push w o.type B k v Y f y g c hT hc hy hl hB
 unfold Oper.wp execOp
 simp only[ho,resolve,invoke,builtin,Sem.run_bind,Sem.run_pure,Result.andThen_ok,List.map_toArray,List.map_cons,List.map_nil,hs,hx,hr]
 exact hK _ _ (h v' w' h1 h2 h3 h4)
theorem Closed.dep {ops:Array Oper}{l:Nat→Bool}(h:Closed ops l){i:Nat}{d:Option Tmp}{op:Op}{deps:List Nat}(ho:OpAt ops i d op deps)(hi:l i=true):∀ q∈deps,l q=true:=by
 obtain⟨o,e1,_,_,_,e5⟩:=ho
 exact dPo e5 fun e he hb=>h i o e1 hi e he hb
theorem run_build52 (w:World)(s0 s1 s2 s3:SL):(Instr.build 61 #[(0,s0.v),(1,s1.v),(2,s2.v),(3,s3.v)]).run Tryz.prog w=.ok (.agg #[s0.v,s1.v,s2.v,s3.v]) w:=by
 unfold SL.v
 go_simp
theorem run_build22 (w:World)(s0 s1 s2 s3:SL):(Instr.buildSlice 28 1 #[(0,.agg #[s0.v,s1.v,s2.v,s3.v])]).run Tryz.prog w=.ok (.slice (some ⟨w.heap.size,0,none⟩) 1 1) (w.alloc (.cells #[s0.v,s1.v,s2.v,s3.v] 61)):=by
 unfold SL.v
 go_simp
end
section
open Go.Sort hiding Below
theorem run_ad2 (b:Nat)(w:World):(Instr.fieldAt 30 (.pointer (some ⟨b,0,none⟩)) 2).run Tryz.prog w=.ok (.pointer (some ⟨b,2,none⟩)) w:=by go_simp
theorem run_idx22 (x:Addr)(n c k:Nat)(hk:k<n)(hn:n≤4611686018427387904)(w:World):(Instr.indexAt 28 (.slice (some x) n c) (.int .i64 (k:Int))).run Tryz.prog w=.ok (.pointer (some (x.add (k*4)))) w:=by
 have h1:(k:Int)<(n:Int):=by omega
 have h2:(0:Int)≤(k:Int):=by omega
 go_simp
end
section
open Go.Sort hiding Below
theorem grcopied1 {W W1:World}{m:Nat}{zs:List Int}{v:Value}(ho:W1.ownsRow W.heap.size 73 1 v (0+m) ([]++zs.map (Value.int .i8)))(hg:(W.alloc (.cells #[] 73)).grownBy W1 (Value.slice (some ⟨W.heap.size,0,none⟩) 0 0).ownBlock)
  {a:Option Addr}{wz:World} (hr:Reads .i8 wz a m zs):∃ s:SL,v=.slice s.a s.n s.c∧s.n=m∧TS W.heap.size W1 s zs∧Below W.heap.size W W1:=by
 obtain⟨a1,c1,e1,r1,hb,n1,l1⟩:=copied (W:=W) (w:=W) (Below.refl _ W) (.cells #[] 73) ho hg hr
 simp only[Nat.zero_add,List.nil_append] at ho
 subst e1
 have ty:=own_typed ho
 refine⟨⟨a1,m,c1⟩,rfl,rfl,⟨⟨r1,n1,l1⟩,fun y hy=>⟨?_,ty y hy⟩⟩,hb⟩
 have hy':a1=some y:=hy
 rw[hy'] at ho
 exact (ho.lt y.block (by simp[Value.ownBlock])).1
def CutA (w:World)(ws:List Int)(T N q cb:Nat)(W:World):Prop:=∃ (y:Addr) (c:Nat),Blk 113 W cb #[.slice (some y) (T-q*N) c]∧Reads .i8 w (some y) (T-q*N) (ws.drop (q*N))∧T-q*N≤c
theorem CutA.below {w:World}{ws:List Int}{T N q cb:Nat}{W W':World}(h:CutA w ws T N q cb W)(hb:Below W.heap.size W W'):CutA w ws T N q cb W':=by
 obtain⟨y,c,k,r,l⟩:=h
 exact⟨y,c,k.kept hb,r,l⟩
theorem CutA.keeps {w:World}{ws:List Int}{T N q cb:Nat}{W W':World}(h:CutA w ws T N q cb W)(hb:Keeps 113 W W'):CutA w ws T N q cb W':=by
 obtain⟨y,c,k,r,l⟩:=h
 exact⟨y,c,hb.blk k,r,l⟩
theorem next_call (w:World)(ws:List Int)(T N q cb:Nat)(W:World)(hC:CutA w ws T N q cb W)(hq:q*N+N≤T)(hT:T≤100000)(hw:Below w.heap.size w W) :
  Calls Tryz.prog 81 #[.pointer (some ⟨cb,0,none⟩),.int .i64 (N:Int)] W fun e W'=>∃ s:SL,e=.returned (.slice s.a s.n s.c)∧TS W.heap.size W' s (segA N ws q)∧CutA w ws T N (q+1) cb W'∧Only cb W W'∧Keeps 30 W W'∧Keeps 61 W W'∧Keeps 73 W W':=by
 obtain⟨i0,hi,hz0,hz1,hz2⟩:=i73'
 obtain⟨x,c,hq0,hr0,hc⟩:=hC
 have enn:T-(q+1)*N=T-q*N-N:=by rw[Nat.add_mul,Nat.one_mul];omega
 have edr:ws.drop ((q+1)*N)=(ws.drop (q*N)).drop N:=by rw[List.drop_drop,Nat.add_mul,Nat.one_mul]
 obtain⟨n,en⟩:∃ n,T-q*N=n:=⟨_,rfl⟩
 have hk:N≤n:=by omega
 have hn:n≤100000:=by omega
 rw[en] at hq0 hr0 hc enn
 have hr:=hr0.below hw
 have hkc:(N:Int)≤(c:Int):=by omega
 have hkn:(N:Int)≤(n:Int):=by omega
 have k0:(0:Int)≤(N:Int):=by omega
 obtain⟨y,ey,ry⟩:∃ y:Addr,(if c=N then some x else some (x.add N))=some y∧Reads .i8 w (some y) (n-N) ((ws.drop (q*N)).drop N):=by
  by_cases e:c=N
  ·refine⟨x,by rw[if_pos e],?_⟩
   have hl:=hr.len
   rw[show n-N=0 by omega,List.drop_eq_nil_of_le (by omega)]
   exact⟨rfl,by omega,fun i=>by simpa using wf_nought .i8,fun h=>by omega,fun _ _ i hi=>by omega⟩
  ·refine⟨x.add N,by rw[if_neg e],?_⟩
   have:=hr0.cut N (n-N) (by omega)
   rwa [List.take_of_length_le (by rw[List.length_drop,hr.len];omega)] at this
 have c0:W.cell? ⟨cb,0,none⟩=some (.slice (some x) n c):=hq0.cell 0 rfl
 have key:∀ W1,Below W.heap.size W W1→W1.cell? ⟨cb,0,none⟩=some (.slice (some x) n c)∧W1.frozen? ⟨cb,0,none⟩=false∧Hid (Blk 113 W1 cb #[.slice (some x) n c]):=fun W1 hb=>⟨(hq0.kept hb).cell 0 rfl,(hq0.kept hb).open_ 0,hq0.kept hb⟩
 have rt:Reads .i8 W (some x) N (segA N ws q):=by have:=hr.cut 0 N (by omega);simpa [Addr.add,segA] using this
 have rt':Reads .i8 (W.alloc (.cells #[] 73)) (some x) N (segA N ws q):=rt.below (bNw (Below.refl _ _) _)
 have c0':(W.alloc (.cells #[] 73)).cell? ⟨cb,0,none⟩=some (.slice (some x) n c):=(hq0.kept (bNw (Below.refl _ _) _)).cell 0 rfl
 have own0:(W.alloc (.cells #[] 73)).ownsRow W.heap.size 73 1 (.slice (some ⟨W.heap.size,0,none⟩) 0 0) 0 []:=World.ownsRow_lit (base:=W.heap.size) (size:=1) W #[] 0 (Nat.le_refl _) (by unfold maxLen;omega) (by simp)
 have HK:=hdn key
 have HR:=hdn ry
 have HE:=hdn (And.intro enn edr)
 have HT:=hdn rt
 clear key hq0 ry enn edr hr hr0 en rt
 go_enter Tryz.func81,Tryz.ntmps81
 go_wp2_with (first
  | (at_builtin;refine wpList_copy rfl _ _ 24 rfl W.heap.size 73 i0 (.int .i8 0) 1 Tryz.underlying24 hi hz0 hz1 hz2 rfl _ 0 [] rfl own0 .i8 (some x) N c (segA N ws q) rfl rt' (by intro h;cases h) (by unfold maxLen;omega) (by omega) (by simp) ?_;intro v1 W1 ho hg;obtain⟨s,rfl,-,ts,hb⟩:=grcopied1 ho hg HT.out;obtain⟨g1,g2,g3⟩:=HK.out W1 hb;clear ho hg own0 c0'))
 go_ret
 have on:=Only.set cb 0 W1 (.slice (some y) (n-N) (c-N))
 refine⟨s,rfl,ts.step (Keeps.of_only on g3.out (by decide)),⟨y,c-N,?_,?_,?_⟩,(Only.of_below hb).trans on,(Keeps.of_below hb).trans (Keeps.of_only on g3.out (by decide)),(Keeps.of_below hb).trans (Keeps.of_only on g3.out (by decide)),(Keeps.of_below hb).trans (Keeps.of_only on g3.out (by decide))⟩
 ·rw[HE.out.1];exact g3.out.set 0 _
 ·rw[HE.out.1,HE.out.2];exact HR.out
 ·rw[HE.out.1];omega
end
section
open Go.Sort hiding Below
structure RsI (w W1:World) (ws:List Int) (T N k j:Nat) (R S:Int) (v:Value) (Y:Nat→Nat→SL) (f:Nat→Nat→List Int) (GB:Nat) (s:Nat→SL) (W:World):Prop where
 bel:Below W1.heap.size W1 W
 cut:CutA w ws T N (4*k+j) W1.heap.size W
 ad:Blk 30 W (W1.heap.size+1) #[.int .i64 R,.int .i64 S,v]
 ta:TA W1.heap.size W v k Y f
 own:∀ g,v.ownBlock=some g→g≠GB
 gb:W1.heap.size≤GB
 lay:Blk 61 W GB #[(if 0<j then (s 0).v else nilS),(if 1<j then (s 1).v else nilS),(if 2<j then (s 2).v else nilS),(if 3<j then (s 3).v else nilS)]
 row:∀ i,i<j→TS W1.heap.size W (s i) (segA N ws (4*k+i))
theorem ta_other {B:Nat}{w w':World}{v:Value}{n:Nat}{Y:Nat→Nat→SL}{f:Nat→Nat→List Int}{g:Nat}{cs:Array Value}(h:TA B w v n Y f)(o:Only g w w')(q:Blk 61 w g cs)(hg:∀ b,v.ownBlock=some b→b≠g):TA B w' v n Y f:=by
 have k62:Keeps 73 w w':=Keeps.of_only o q (by decide)
 refine⟨⟨h.own.1,?_⟩,fun i hi j hj=>(h.lay i hi j hj).step k62⟩
 rcases h.own.2 with h2|⟨b,cap,cur,hv,hb,hh,r⟩
 ·exact .inl h2
 ·refine .inr ⟨b,cap,cur,hv,hb,?_,r⟩
  exact (o.block b (Array.getElem?_eq_some_iff.1 hh).1 (fun e=>hg b (by rw[hv];rfl) (by simpa using e))).trans hh
theorem RsI.step {w W1:World}{ws:List Int}{T N k j:Nat}{R S:Int}{v:Value}{Y:Nat→Nat→SL}{f:Nat→Nat→List Int}{GB:Nat}{s:Nat→SL}{W X:World}(h:RsI w W1 ws T N k j R S v Y f GB s W)(hj:j<4)(sj:SL)(ts:TS W.heap.size X sj (segA N ws (4*k+j)))(hC:CutA w ws T N (4*k+j+1) W1.heap.size X)(on:Only W1.heap.size W X)(k24:Keeps 30 W X)(k52:Keeps 61 W X)(k62:Keeps 73 W X) :
  X.cell? ⟨GB,j,none⟩=some nilS∧X.frozen? ⟨GB,j,none⟩=false∧Hid (RsI w W1 ws T N k (j+1) R S v Y f GB (upd s j sj) (X.setCell ⟨GB,j,none⟩ (.slice sj.a sj.n sj.c))):=by
 have qG:=k52.blk h.lay
 have qA:=k24.blk h.ad
 have tA:TA W1.heap.size X v k Y f:=⟨k52.own h.ta.own,fun i hi j hj=>(h.ta.lay i hi j hj).step k62⟩
 have bX:=Only.below h.bel (Nat.le_refl _) h.bel.size on
 have onG:=Only.set GB j X (.slice sj.a sj.n sj.c)
 have g24:Keeps 30 X (X.setCell ⟨GB,j,none⟩ (.slice sj.a sj.n sj.c)):=Keeps.of_only onG qG (by decide)
 have g75:Keeps 113 X (X.setCell ⟨GB,j,none⟩ (.slice sj.a sj.n sj.c)):=Keeps.of_only onG qG (by decide)
 have g62:Keeps 73 X (X.setCell ⟨GB,j,none⟩ (.slice sj.a sj.n sj.c)):=Keeps.of_only onG qG (by decide)
 have rows:∀ i,i<j+1→TS W1.heap.size (X.setCell ⟨GB,j,none⟩ (.slice sj.a sj.n sj.c)) (upd s j sj i) (segA N ws (4*k+i)):=fun i hi=>by
  by_cases e:i=j
  ·subst e
   rw[upd_same]
   exact (ts.le h.bel.size).step g62
  ·rw[upd_other s j sj e]
   exact ((h.row i (by omega)).step k62).step g62
 refine⟨?_,qG.open_ j,Only.below bX h.gb bX.size onG,by rw[←Nat.add_assoc];exact hC.keeps g75,g24.blk qA,ta_other tA onG qG h.own,h.own,h.gb,?_,rows⟩
 ·refine qG.cell j ?_
  rcases (show j=0∨j=1∨j=2∨j=3 by omega) with rfl|rfl|rfl|rfl<;>rfl
 ·rcases (show j=0∨j=1∨j=2∨j=3 by omega) with rfl|rfl|rfl|rfl
  ·exact set_blk qG 0 _ rfl
  ·exact set_blk qG 1 _ rfl
  ·exact set_blk qG 2 _ rfl
  ·exact set_blk qG 3 _ rfl
theorem RsI.full {w W1:World}{ws:List Int}{T N k:Nat}{R S:Int}{v:Value}{Y:Nat→Nat→SL}{f:Nat→Nat→List Int}{GB:Nat}{s:Nat→SL}{s0 s1 s2 s3:SL}{W:World}(h:RsI w W1 ws T N k 4 R S v Y f GB (upd (upd (upd (upd s 0 s0) 1 s1) 2 s2) 3 s3) W) :
  Blk 61 W GB #[.slice s0.a s0.n s0.c,.slice s1.a s1.n s1.c,.slice s2.a s2.n s2.c,.slice s3.a s3.n s3.c]∧∀ j,j<4→TS W1.heap.size W (four s0 s1 s2 s3 j) (segA N ws (4*k+j)):=by
 refine⟨h.lay,fun j hj=>?_⟩
 have:=h.row j hj
 rcases (show j=0∨j=1∨j=2∨j=3 by omega) with rfl|rfl|rfl|rfl
 ·exact this
 ·exact this
 ·exact this
 ·exact this
theorem ta_slice {B:Nat}{w:World}{v:Value}{n:Nat}{Y:Nat→Nat→SL}{f:Nat→Nat→List Int}(h:TA B w v n Y f):∃ s:SL,v=.slice s.a s.n s.c:=by
 rcases h.own.2 with⟨e,_⟩|⟨g,cap,cur,e,_⟩
 ·exact⟨⟨none,0,0⟩,e⟩
 ·exact⟨⟨_,_,_⟩,e⟩
theorem refShape_yes (R S d h v u x t n:Int)(x0:Addr)(ml N T c:Nat)(ws:List Int)(w:World)(hr:Reads .i8 w (some x0) T ws)(hc:T≤c)(hT:T=4*ml*N)(hml:ml≤1000)(hl:T≤100000)(hN:N≤1000)(eN:R*d=(N:Int))(q:Int)(hq:(ml:Int)*4=q)(hqT:q*(N:Int)=(T:Int))
  (k35:∀ w,Calls Tryz.prog 83 #[.int .i64 R,.int .i64 S,.agg #[.int .i64 d,.int .i64 h,.int .i64 (ml:Int),.int .i64 v,.int .i64 u,.int .i64 x,.int .i64 t,.int .i64 n]] w fun e w'=>e=.returned (.bool true)∧Below w.heap.size w w') :
  Calls Tryz.prog 42 #[.int .i64 R,.int .i64 S,.agg #[.int .i64 d,.int .i64 h,.int .i64 (ml:Int),.int .i64 v,.int .i64 u,.int .i64 x,.int .i64 t,.int .i64 n],.slice (some x0) T c] w fun e w'=>∃ (L:SL) (Y:Nat→Nat→SL),e=.returned (.tuple #[.agg #[.int .i64 R,.int .i64 S,.slice L.a L.n L.c],.int .i64 0])∧NewA w.heap.size w' L Y (grshapeV ml N ws)∧Below w.heap.size w w':=by
 have hb:=bNw (bNw (Below.refl w.heap.size w) (.cells #[.int .i64 d,.int .i64 h,.int .i64 (ml:Int),.int .i64 v,.int .i64 u,.int .i64 x,.int .i64 t,.int .i64 n] 23)) (.cells #[.int .i64 0,.int .i64 0,nilS] 30)
 have qc:Blk 23 ((w.alloc (.cells #[.int .i64 d,.int .i64 h,.int .i64 (ml:Int),.int .i64 v,.int .i64 u,.int .i64 x,.int .i64 t,.int .i64 n] 23)).alloc (.cells #[.int .i64 0,.int .i64 0,nilS] 30)) w.heap.size #[.int .i64 d,.int .i64 h,.int .i64 (ml:Int),.int .i64 v,.int .i64 u,.int .i64 x,.int .i64 t,.int .i64 n]:=(Blk.new 23 w _).kept (bNw (Below.refl _ _) _)
 have qr:Blk 30 ((w.alloc (.cells #[.int .i64 d,.int .i64 h,.int .i64 (ml:Int),.int .i64 v,.int .i64 u,.int .i64 x,.int .i64 t,.int .i64 n] 23)).alloc (.cells #[.int .i64 0,.int .i64 0,nilS] 30)) (w.heap.size+1) #[.int .i64 0,.int .i64 0,nilS]:=Blk.new_at 30 (w.alloc _) _ _ (by simp)
 obtain⟨c0,c1,c2,c3,c4,c5,c6,c7⟩:=qc.cfg
 have q0:(0:Int)≤q:=by omega
 have q1:q≤4000:=by omega
 have start:∀ W1:World,CutA w ws T N (4*0+0) W1.heap.size ((W1.alloc (.cells #[.slice (some x0) T c] 113)).alloc (.cells #[.int .i64 R,.int .i64 S,nilS] 30)):=fun W1 =>
  ⟨x0,c,by rw[Nat.zero_mul,Nat.sub_zero];exact (Blk.new 113 W1 _).kept (bNw (Below.refl _ _) _),by rw[Nat.zero_mul,Nat.sub_zero,List.drop_zero];exact hr,by omega⟩
 have HS:=hdn start
 have HT:=hdn hT
 clear hr hT start
 go_enter Tryz.func42,Tryz.ntmps42
 go_wp2_with (first|(go_at_call 83;refine (k35 _).mono ?_;rintro e W1 ⟨rfl,h1⟩;replace qr:=qr.kept h1;replace qc:=qc.kept h1;replace hb:=bTn hb h1;clear h1 c0 c1 c2 c3 c4 c5 c6 c7;obtain⟨c0,c1,c2,c3,c4,c5,c6,c7⟩:=qc.cfg;obtain⟨z0,z1,z2⟩:=qr.c3;obtain⟨o0,o1,o2⟩:=qr.o3))
 have cut:=HS.out W1
 have qA:Blk 30 ((W1.alloc (.cells #[.slice (some x0) T c] 113)).alloc (.cells #[.int .i64 R,.int .i64 S,nilS] 30)) (W1.heap.size+1) #[.int .i64 R,.int .i64 S,nilS]:=Blk.new_at 30 (W1.alloc _) _ _ (by simp)
 have bA:Below W1.heap.size W1 ((W1.alloc (.cells #[.slice (some x0) T c] 113)).alloc (.cells #[.int .i64 R,.int .i64 S,nilS] 30)):=bNw (bNw (Below.refl _ _) _) _
 obtain⟨A,eA⟩:∃ A,(W1.alloc (.cells #[.slice (some x0) T c] 113)).alloc (.cells #[.int .i64 R,.int .i64 S,nilS] 30)=A:=⟨_,rfl⟩
 rw[eA] at cut qA bA ⊢
 have HB:=hdn (And.intro hb (And.intro qr (And.intro qc (And.intro cut (And.intro qA bA)))))
 have s1:=hb.size
 clear hb qr qc cut qA bA c0 c1 c2 c3 c4 c5 c6 c7 z0 z1 z2 o0 o1 o2 k35 eA eN hq hqT
 go_loopw [13,14] (fun i _ wr=>∃ k:Nat,k≤ml∧i=.int .i64 k∧Below W1.heap.size W1 wr∧CutA w ws T N (4*k+0) W1.heap.size wr∧∃ (La:SL) (Y:Nat→Nat→SL),Blk 30 wr (W1.heap.size+1) #[.int .i64 R,.int .i64 S,.slice La.a La.n La.c]∧TA W1.heap.size wr (.slice La.a La.n La.c) k Y (fun i j=>segA N ws (4*i+j))) (fun i _ _=>ml-(intOf i).toNat)
 case atStart=>exact⟨0,Nat.zero_le _,rfl,HB.out.2.2.2.2.2,HB.out.2.2.2.1,⟨none,0,0⟩,fun _ _=>SL.nought,HB.out.2.2.2.2.1,TA.nil _ _ _ _⟩
 case round =>
  obtain⟨k,hk,rfl,hbr,cut,La,Y,qA,tA⟩:=hrel
  obtain⟨WR,eWR⟩:∃ WR,WR=wr:=⟨_,rfl⟩
  subst eWR
  obtain⟨c0,c1,c2,c3,c4,c5,c6,c7⟩:=(HB.out.2.2.1.kept hbr).cfg
  by_cases hlt:k<ml
  ·have hlt':(k:Int)<(ml:Int):=by omega
   have b5:=bNw (Below.refl WR.heap.size WR) (.cells #[nilS,nilS,nilS,nilS] 61)
   have st:RsI w W1 ws T N k 0 R S (.slice La.a La.n La.c) Y (fun i j=>segA N ws (4*i+j)) WR.heap.size (fun _=>SL.nought) (WR.alloc (.cells #[nilS,nilS,nilS,nilS] 61)) :=
    ⟨bTn hbr b5,cut.below b5,qA.kept b5,tA.below b5,(fun g hg=>by have:=(tA.own.lt g hg).2;omega),hbr.size,Blk.new 61 WR _,fun i hi=>absurd hi (Nat.not_lt_zero _)⟩
   have HQ:Hid (∀ j,j<4→(4*k+j)*N+N≤T):=fun j hj=>by
    have:=Nat.mul_le_mul_right N (show 4*k+j+1≤4*ml by omega)
    rw[Nat.add_mul (4*k+j),Nat.one_mul] at this
    rw[HT.out]
    exact this
   have BW:Hid (Below w.heap.size w W1):=HB.out.1
   have nx:=fun (j:Nat) (hj:j<4) (s:Nat→SL) (W:World) (g:RsI w W1 ws T N k j R S (.slice La.a La.n La.c) Y (fun i j=>segA N ws (4*i+j)) WR.heap.size s W)=>next_call w ws T N (4*k+j) W1.heap.size W g.cut (HQ.out j hj) hl (bTn BW.out g.bel)
   have HST:=hdn st
   have NX:=hdn nx
   clear st nx b5 cut qA tA hbr
   go_wp2_with (first
    | (go_at_call 81;refine (NX.out 0 (by decide) _ _ HST.out).mono ?_;rintro e X0 ⟨s0,rfl,ts0,hC0,on0,k24,k52,k62⟩;obtain⟨g1,g2,st0⟩:=HST.out.step (by decide) s0 ts0 hC0 on0 k24 k52 k62;clear ts0 hC0 on0 k24 k52 k62 HST)
    | (go_at_call 81;refine (NX.out 1 (by decide) _ _ st0.out).mono ?_;rintro e X1 ⟨s1,rfl,ts1,hC1,on1,k24,k52,k62⟩;obtain⟨g3,g4,st1⟩:=st0.out.step (by decide) s1 ts1 hC1 on1 k24 k52 k62;clear ts1 hC1 on1 k24 k52 k62 st0 g1 g2)
    | (go_at_call 81;refine (NX.out 2 (by decide) _ _ st1.out).mono ?_;rintro e X2 ⟨s2,rfl,ts2,hC2,on2,k24,k52,k62⟩;obtain⟨g1,g2,st2⟩:=st1.out.step (by decide) s2 ts2 hC2 on2 k24 k52 k62;clear ts2 hC2 on2 k24 k52 k62 st1 g3 g4)
    | (go_at_call 81;refine (NX.out 3 (by decide) _ _ st2.out).mono ?_;rintro e X3 ⟨s3,rfl,ts3,hC3,on3,k24,k52,k62⟩;obtain⟨g3,g4,st3⟩:=st2.out.step (by decide) s3 ts3 hC3 on3 k24 k52 k62;obtain⟨V3,eV3⟩:∃ V,X3.setCell ⟨WR.heap.size,3,none⟩ (.slice s3.a s3.n s3.c)=V:=⟨_,rfl⟩;rw[eV3] at st3;obtain⟨fl,rw4⟩:=RsI.full st3.out;obtain⟨d0,d1,d2⟩:=st3.out.ad.c3;obtain⟨y0,y1,y2,y3⟩:=fl.c4;have b6:=bNw (Below.refl V3.heap.size V3) (.cells #[.slice s0.a s0.n s0.c,.slice s1.a s1.n s1.c,.slice s2.a s2.n s2.c,.slice s3.a s3.n s3.c] 61);have qz:Blk 61 (V3.alloc (.cells #[.slice s0.a s0.n s0.c,.slice s1.a s1.n s1.c,.slice s2.a s2.n s2.c,.slice s3.a s3.n s3.c] 61)) V3.heap.size #[.slice s0.a s0.n s0.c,.slice s1.a s1.n s1.c,.slice s2.a s2.n s2.c,.slice s3.a s3.n s3.c]:=Blk.new 61 V3 _;have qd:=st3.out.ad.kept b6;obtain⟨dd0,dd1,dd2⟩:=qd.c3;clear ts3 hC3 on3 k24 k52 k62 st2 g1 g2 fl)
    | (at_builtin;refine grwpList_layer rfl (.tmp 64) (.tmp 66) rfl W1.heap.size k _ Y (fun i j=>segA N ws (4*i+j)) (four s0 s1 s2 s3) V3.heap.size 1 rfl rfl (st3.out.ta.below b6) qz (fun j hj=>(rw4 j hj).below b6) (by omega) (Nat.le_trans st3.out.bel.size b6.size) ?_;intro v6 w6 hb6 k24 k75 ta6;obtain⟨L6,rfl⟩:=ta_slice ta6;have qd6:=k24.blk qd;have z2:=qd6.cell 2 rfl;have o2:=qd6.open_ 2;have hbl:=((bTn st3.out.bel b6).trans hb6);have cut6:=((st3.out.cut.below b6).keeps k75);clear dd0 dd1 dd2 d0 d1 d2 y0 y1 y2 y3 rw4 qz qd b6 hb6 k24 k75 st3 g3 g4 eV3))
   have on6:=Only.set (W1.heap.size+1) 2 w6 (.slice L6.a L6.n L6.c)
   have qA6:Blk 30 (w6.setCell ⟨W1.heap.size+1,2,none⟩ (.slice L6.a L6.n L6.c)) (W1.heap.size+1) #[.int .i64 R,.int .i64 S,.slice L6.a L6.n L6.c]:=set_blk qd6 2 _ rfl
   have ta7:TA W1.heap.size (w6.setCell ⟨W1.heap.size+1,2,none⟩ (.slice L6.a L6.n L6.c)) (.slice L6.a L6.n L6.c) (k+1) (upd Y k (four s0 s1 s2 s3)) (fun i j=>segA N ws (4*i+j)):=⟨(Keeps.of_only on6 qd6 (by decide)).own ta6.own,fun i hi j hj=>(ta6.lay i hi j hj).step (Keeps.of_only on6 qd6 (by decide))⟩
   have cut7:=cut6.keeps (Keeps.of_only on6 qd6 (by decide))
   have bel7:=Only.below hbl (Nat.le_succ _) hbl.size on6
   go_roundw
   case rel=>exact⟨k+1,by omega,by go_num,bel7,cut7,L6,_,qA6,ta7⟩
   case measure=>simp[intOf];omega
  ·have e:k=ml:=by omega
   subst e
   have nlt:¬(k:Int)<(k:Int):=by omega
   obtain⟨a0,a1,a2⟩:=qA.c3
   obtain⟨L',eL,nw⟩:=TA.new (m:=grshapeV k N ws) tA
   have eL':La=L':=SL.v_inj eL
   subst eL'
   have qr:=HB.out.2.1.kept hbr
   have hb:=bTn HB.out.1 hbr
   obtain⟨z0,z1,z2⟩:=qr.c3
   obtain⟨o0,o1,o2⟩:=qr.o3
   have lt2:=HB.out.2.1.lt
   clear cut hbr tA eL
   go_wp2
   obtain⟨W6,eW,q6,only,hz⟩:=set3 qr (.int .i64 R) (.int .i64 S) (.slice La.a La.n La.c)
   rw[eW]
   refine bodyPost_ret (v:=.tuple #[.agg #[.int .i64 R,.int .i64 S,.slice La.a La.n La.c],.int .i64 0]) ?_ rfl ⟨La,rfl,⟨_,(nw.only only lt2).le (by omega)⟩,Only.below hb (Nat.le_succ _) hb.size only⟩
   obtain⟨y0,y1,y2⟩:=q6.c3
   simp[results,Tryz.results42,go_sem,y0,y1,y2]
end
section
open Go.Sort hiding Below
def ownD (i:Nat):Option Nat:=if i<20 then some (18+i) else if i=20 then some 3 else none
theorem ownD_inj {i j d:Nat}(h1:ownD i=some d)(h2:ownD j=some d):i=j:=by
 unfold ownD at h1 h2
 split at h1<;>split at h2
 ·simp at h1 h2;omega
 ·split at h2
  ·simp at h1 h2;omega
  ·cases h2
 ·split at h1
  ·simp at h1 h2;omega
  ·cases h1
 ·split at h1
  ·split at h2
   ·omega
   ·cases h2
  ·cases h1
theorem ownD_ne {i s:Nat}(h:s≠3∧(s<18∨38≤s)):ownD i≠some s:=by
 intro e
 unfold ownD at e
 split at e
 ·simp at e;omega
 ·split at e
  ·simp at e;omega
  ·cases e
def ownF (B tb k:Nat)(v0:Value)(Y:Nat→Nat→SL)(f:Nat→Nat→List Int)(y:Nat→SL)(i:Nat)(v:Value)(w:World):Prop :=
 if i=0 then v=v0 else if i<17 then
  (if (i-1)%4=0 then ∃ g,v=.slice (some ⟨g,0,none⟩) 0 0∧B≤g∧Blk 73 w g #[] else if (i-1)%4=1 then v=.pointer (some ((⟨tb,0,none⟩:Addr).add ((i-1)/4))) else if (i-1)%4=2 then v=(y ((i-1)/4)).v else ∃ s:SL,v=s.v∧TS B w s (f k ((i-1)/4)))
 else if i=17 then ∃ s:Nat→SL,v=.agg #[(s 0).v,(s 1).v,(s 2).v,(s 3).v]∧∀ j,j<4→TS B w (s j) (f k j)
 else if i=18 then ∃ (g:Nat) (s:Nat→SL),v=.slice (some ⟨g,0,none⟩) 1 1∧Blk 61 w g #[(s 0).v,(s 1).v,(s 2).v,(s 3).v]∧∀ j,j<4→TS B w (s j) (f k j)
 else True
def ownG (B tb k:Nat)(v0:Value)(Y:Nat→Nat→SL)(f:Nat→Nat→List Int)(y:Nat→SL)(l:Nat→Bool)(i:Nat)(v:Value)(w:World):Prop :=
 if i<19 then (l 19=false→ownF B tb k v0 Y f y i v w) else ∃ s:Nat→SL,TA B w v (k+1) (upd Y k s) f
theorem ownF_below {B tb k:Nat}{v0:Value}{Y:Nat→Nat→SL}{f:Nat→Nat→List Int}{y:Nat→SL}{i:Nat}{v:Value}{w w':World}(h:ownF B tb k v0 Y f y i v w)(hb:Below w.heap.size w w'):ownF B tb k v0 Y f y i v w':=by
 unfold ownF at h ⊢
 split
 ·rename_i h0
  rw[if_pos h0] at h
  exact h
 ·rename_i h0
  rw[if_neg h0] at h
  split
  ·rename_i h1
   rw[if_pos h1] at h
   split
   ·rename_i h2
    rw[if_pos h2] at h
    obtain⟨g,e1,e2,e3⟩:=h
    exact⟨g,e1,e2,e3.kept hb⟩
   ·rename_i h2
    rw[if_neg h2] at h
    split
    ·rename_i h3
     rw[if_pos h3] at h
     exact h
    ·rename_i h3
     rw[if_neg h3] at h
     split
     ·rename_i h4
      rw[if_pos h4] at h
      exact h
     ·rename_i h4
      rw[if_neg h4] at h
      obtain⟨s,e1,e2⟩:=h
      exact⟨s,e1,e2.below hb⟩
  ·rename_i h1
   rw[if_neg h1] at h
   split
   ·rename_i h2
    rw[if_pos h2] at h
    obtain⟨s,e1,e2⟩:=h
    exact⟨s,e1,fun j hj=>(e2 j hj).below hb⟩
   ·rename_i h2
    rw[if_neg h2] at h
    split
    ·rename_i h3
     rw[if_pos h3] at h
     obtain⟨g,s,e1,e2,e3⟩:=h
     exact⟨g,s,e1,e2.kept hb,fun j hj=>(e3 j hj).below hb⟩
    ·trivial
def ownR (B:Nat)(v0:Value)(w0:World)(l:Nat→Bool)(a:Act)(w:World):Prop:=Below B w0 w∧(l 19=false→Below w0.heap.size w0 w)∧(l 20=false→a.tmps.getD 3 undef=v0)
theorem own_region {id:Nat}{ops:Array Oper}{Q:Exit→Act→World→Prop}{a0:Act}{w0:World}(B tb k:Nat)(v0:Value)(Y:Nat→Nat→SL)(f:Nat→Nat→List Int)(y:Nat→SL)(hlow:lowB ops=true)(hsz:ops.size=21)
  (o0:OpAt ops 0 (some 18) (.move (.tmp 3)) [])
  (hops:∀ j,j<4→OpAt ops (1+4*j) (some (19+4*j)) (.buildSlice 24 0 #[]) []∧OpAt ops (2+4*j) (some (20+4*j)) (.fieldAddr 61 (.tmp 5) j) []∧OpAt ops (3+4*j) (some (21+4*j)) (.load 24 (.tmp (20+4*j))) [2+4*j] ∧
   OpAt ops (4+4*j) (some (22+4*j)) (.call { callee:=.builtin .append,args:=#[.tmp (19+4*j),.tmp (21+4*j)],argTypes:=#[24,24] }) [1+4*j,3+4*j])
  (o17:OpAt ops 17 (some 35) (.build 61 #[(0,.tmp 22),(1,.tmp 26),(2,.tmp 30),(3,.tmp 34)]) [4,8,12,16])
  (o18:OpAt ops 18 (some 36) (.buildSlice 28 1 #[(0,.tmp 35)]) [17])
  (o19:OpAt ops 19 (some 37) (.call { callee:=.builtin .append,args:=#[.tmp 18,.tmp 36],argTypes:=#[28,28] }) [0,18])
  (o20:OpAt ops 20 (some 3) (.assign (.tmp 37)) [19])
  (h5:a0.tmps.getD 5 undef=.pointer (some ⟨tb,0,none⟩)) (h3:a0.tmps.getD 3 undef=v0) (hN:38≤a0.tmps.size)
  (hB:B≤w0.heap.size) (hT:TA B w0 v0 k Y f) (q0:Blk 61 w0 tb #[(y 0).v,(y 1).v,(y 2).v,(y 3).v]) (hy:∀ j,j<4→IsS w0 (y j) (f k j)∧(f k j).length≤140737488355328) (hk:(k+1)*96≤140737488355328)
  (fin:∀ a w (s:Nat→SL),a.tmps.size=a0.tmps.size→a.defers=a0.defers→(∀ s,s≠3∧(s<18∨38≤s)→a.tmps.getD s undef=a0.tmps.getD s undef)→Below B w0 w→TA B w (a.tmps.getD 3 undef) (k+1) (upd Y k s) f→Q .normal a w) :
  (Code.region id ops true).wp Tryz.prog Q a0 w0:=by
 refine wp_region_inv2 (by kernel_rfl) hlow (Inv 21 ownD a0 (ownR B v0 w0) (ownG B tb k v0 Y f y)) (Inv.start ⟨⟨rfl,rfl,rfl,Nat.le_refl _,fun _ _=>rfl⟩,fun _=>⟨rfl,rfl,rfl,Nat.le_refl _,fun _ _=>rfl⟩,fun _=>h3⟩) ?_ ?_
 ·intro l i o a w ho hl hcl hdep hI
  have hi:i<21:=by rw[←hsz];exact (Array.getElem?_eq_some_iff.1 ho).1
  obtain⟨hw1,hw2,hw3⟩:=hI.world
  have hsB:B≤w.heap.size:=Nat.le_trans hB hw1.size
  have ev:∀ (s:Nat),a.eval (.tmp s)=a.tmps.getD s undef:=fun _=>rfl
  have inj:∀ d,ownD i=some d→∀ j d',j<21→ownD j=some d'→j≠i→d'≠d:=fun d hd j d' hj hd' hne e=>hne (ownD_inj (by rw[hd',e]) hd)
  have e5':a.eval (.tmp 5)=.pointer (some ⟨tb,0,none⟩):=(hI.kept 5 (fun j _=>ownD_ne (by omega))).trans h5
  -- the last append is not done as long as any operation ahead of it is not
  have all:l 19=true→∀ j,j<19→l j=true:=fun h=>by
   have d19:=hcl.dep o19 h
   have l0:=d19 0 (by simp)
   have l18:=d19 18 (by simp)
   have l17:=hcl.dep o18 l18 17 (by simp)
   have d17:=hcl.dep o17 l17
   have four:∀ q,q<4→l (4+4*q)=true:=fun q hq=>by
    rcases (show q=0∨q=1∨q=2∨q=3 by omega) with rfl|rfl|rfl|rfl
    ·exact d17 4 (by simp)
    ·exact d17 8 (by simp)
    ·exact d17 12 (by simp)
    ·exact d17 16 (by simp)
   intro j hj
   by_cases j0:j=0
   ·rw[j0];exact l0
   by_cases j17:j<17
   ·have hq:(j-1)/4<4:=by omega
    obtain⟨p0,p1,p2,p3⟩:=hops ((j-1)/4) hq
    have f4:=four _ hq
    have f1:=hcl.dep p3 f4 (1+4*((j-1)/4)) (by simp)
    have f3:=hcl.dep p3 f4 (3+4*((j-1)/4)) (by simp)
    have f2:=hcl.dep p2 f3 (2+4*((j-1)/4)) (by simp)
    rcases (show j=1+4*((j-1)/4)∨j=2+4*((j-1)/4)∨j=3+4*((j-1)/4)∨j=4+4*((j-1)/4) by omega) with e|e|e|e
    ·rw[e];exact f1
    ·rw[e];exact f2
    ·rw[e];exact f3
    ·rw[e];exact f4
   rcases (show j=17∨j=18 by omega) with rfl|rfl
   ·exact l17
   ·exact l18
  have n19:i<19→l 19=false:=fun h=>by
   cases e:l 19 with
   | false=>rfl
   | true=>rw[all e i h] at hl;cases hl
  have ne19:i<19→(l 19 || 19==i)=false:=fun h=>by rw[n19 h];simp;omega
  have val:∀ j,j<19→i≤19→l j=true→ownF B tb k v0 Y f y j (a.tmps.getD (18+j) undef) w:=fun j hj hi' h=>by
   have:=hI.val j (18+j) (by omega) (by unfold ownD;rw[if_pos (by omega)]) h
   unfold ownG at this
   rw[if_pos hj] at this
   exact this (by
    by_cases e:i<19
    ·exact n19 e
    ·rw[show i=19 by omega] at hl
     exact hl)
  have go:∀ {v w'},i<19→Below w.heap.size w w'→ownF B tb k v0 Y f y i v w'→Inv 21 ownD a0 (ownR B v0 w0) (ownG B tb k v0 Y f y) (fun j=>l j || j==i) (a.put (some (18+i)) v) w':=by
   intro v w' hi' hw hF
   have hD:ownD i=some (18+i):=by unfold ownD;rw[if_pos (by omega)]
   refine hI.put hi hD (by omega) (inj _ hD) ⟨hw1.trans (hw.mono hsB),fun _=>bTn (hw2 (n19 hi')) hw,fun h=>?_⟩ ?_ ?_
   ·rw[get_put a (18+i) v 3 (by rw[hI.size];exact Nat.lt_of_lt_of_le (show 18+i<38 by omega) hN),if_neg (by omega)]
    exact hw3 (by simp only[Bool.or_eq_false_iff] at h;exact h.1)
   ·unfold ownG
    rw[if_pos hi']
    exact fun _=>hF
   ·intro j u hj hlj hne hf
    unfold ownG at hf ⊢
    by_cases hj19:j<19
    ·rw[if_pos hj19] at hf ⊢
     exact fun _=>ownF_below (hf (n19 hi')) hw
    ·rw[if_neg hj19] at hf ⊢
     obtain⟨s,hs⟩:=hf
     exact⟨s,hs.below hw⟩
  by_cases i0:i=0
  ·subst i0
   obtain⟨o',e1,e2,e3,e4,e5⟩:=o0
   obtain rfl:=sOp ho e1
   have l20:l 20=false:=by
    cases e:l 20 with
    | false=>rfl
    | true=>have:=all (hcl.dep o20 e 19 (by simp)) 0 (by omega);rw[hl] at this;cases this
   refine wVa (v:=v0) (w':=w) ho e4 ?_ (by rw[e2];exact go (by omega) (Below.refl _ _) (by unfold ownF;rw[if_pos rfl]))
   simp[execOp,e3,ev,hw3 l20]
  by_cases i17:i<17
  ·obtain⟨j,r,hj,hr,rfl⟩:∃ j r,j<4∧r<4∧i=1+r+4*j:=⟨(i-1)/4,(i-1)%4,by omega,by omega,by omega⟩
   obtain⟨p0,p1,p2,p3⟩:=hops j hj
   have dv:∀ r,r<4→(1+r+4*j-1)%4=r∧(1+r+4*j-1)/4=j:=fun r hr=>by omega
   have hw0:=hw2 (n19 (by omega))
   rcases (show r=0∨r=1∨r=2∨r=3 by omega) with rfl|rfl|rfl|rfl
   ·obtain⟨o',e1,e2,e3,e4,e5⟩:=p0
    obtain rfl:=sOp ho e1
    refine wVa (v:=.slice (some ⟨w.heap.size,0,none⟩) 0 0) (w':=w.alloc (.cells #[] 73)) ho e4 ?_ (by rw[e2,show 19+4*j=18+(1+0+4*j) by omega];exact go (by omega) (bNw (Below.refl _ _) _) (by unfold ownF;rw[if_neg (by omega),if_pos (by omega),if_pos (dv 0 hr).1];exact⟨_,rfl,hsB,Blk.new 73 w #[]⟩))
    simp[execOp,e3,run_build0]
   ·obtain⟨o',e1,e2,e3,e4,e5⟩:=p1
    obtain rfl:=sOp ho e1
    refine wVa (v:=.pointer (some ((⟨tb,0,none⟩:Addr).add j))) (w':=w) ho e4 ?_ (by rw[e2,show 20+4*j=18+(1+1+4*j) by omega];exact go (by omega) (Below.refl _ _) (by unfold ownF;rw[if_neg (by omega),if_pos (by omega),if_neg (by have:=(dv 1 hr).1;omega),if_pos (dv 1 hr).1,(dv 1 hr).2]))
    simp[execOp,e3,e5',grrun_field j hj]
   ·obtain⟨o',e1,e2,e3,e4,e5⟩:=p2
    obtain rfl:=sOp ho e1
    have dp:=dPo e5 hdep
    have ev1:=val (1+1+4*j) (by omega) (by omega) (by have:=dp (2+4*j) (by simp);rwa [show 2+4*j=1+1+4*j by omega] at this)
    unfold ownF at ev1
    rw[if_neg (by omega),if_pos (by omega),if_neg (by have:=(dv 1 (by omega)).1;omega),if_pos (dv 1 (by omega)).1,(dv 1 (by omega)).2,show 18+(1+1+4*j)=20+4*j by omega] at ev1
    have hc:w.cell? ((⟨tb,0,none⟩:Addr).add j)=some (.slice (y j).a (y j).n (y j).c):=by
     have qw:=q0.kept hw0
     rcases (show j=0∨j=1∨j=2∨j=3 by omega) with rfl|rfl|rfl|rfl
     ·exact qw.cell 0 rfl
     ·exact qw.cell 1 rfl
     ·exact qw.cell 2 rfl
     ·exact qw.cell 3 rfl
    refine wVa (v:=(y j).v) (w':=w) ho e4 ?_ (by rw[e2,show 21+4*j=18+(1+2+4*j) by omega];exact go (by omega) (Below.refl _ _) (by unfold ownF;rw[if_neg (by omega),if_pos (by omega),if_neg (by have:=(dv 2 hr).1;omega),if_neg (by have:=(dv 2 hr).1;omega),if_pos (dv 2 hr).1,(dv 2 hr).2]))
    simp[execOp,e3,ev,ev1,run_load24 hc,SL.v]
   ·obtain⟨o',e1,e2,e3,e4,e5⟩:=p3
    obtain rfl:=sOp ho e1
    have dp:=dPo e5 hdep
    have ev0:=val (1+0+4*j) (by omega) (by omega) (by have:=dp (1+4*j) (by simp);rwa [show 1+4*j=1+0+4*j by omega] at this)
    unfold ownF at ev0
    rw[if_neg (by omega),if_pos (by omega),if_pos (dv 0 (by omega)).1,show 18+(1+0+4*j)=19+4*j by omega] at ev0
    obtain⟨g,ev1,hgB,hgq⟩:=ev0
    have ev2:=val (1+2+4*j) (by omega) (by omega) (by have:=dp (3+4*j) (by simp);rwa [show 3+4*j=1+2+4*j by omega] at this)
    unfold ownF at ev2
    rw[if_neg (by omega),if_pos (by omega),if_neg (by have:=(dv 2 (by omega)).1;omega),if_neg (by have:=(dv 2 (by omega)).1;omega),if_pos (dv 2 (by omega)).1,(dv 2 (by omega)).2,show 18+(1+2+4*j)=21+4*j by omega] at ev2
    obtain⟨hSj,hZj⟩:=hy j hj
    obtain⟨s',w',hrn,hbw,hts⟩:=run_copy_ts w g B o.type (y j) (f k j) (hSj.below hw0) hZj hgB hgq hsB
    refine wVa (v:=s'.v) (w':=w') ho e4 ?_ (by rw[e2,show 22+4*j=18+(1+3+4*j) by omega];exact go (by omega) hbw (by unfold ownF;rw[if_neg (by omega),if_pos (by omega),if_neg (by have:=(dv 3 hr).1;omega),if_neg (by have:=(dv 3 hr).1;omega),if_neg (by have:=(dv 3 hr).1;omega),(dv 3 hr).2];exact⟨s',rfl,hts⟩))
    simp only[execOp,e3,resolve,invoke,builtin,Sem.run_bind,Sem.run_pure,Result.andThen_ok,List.map_toArray,List.map_cons,List.map_nil,ev,ev1,ev2,SL.v,hrn]
  rcases (show i=17∨i=18∨i=19∨i=20 by omega) with rfl|rfl|rfl|rfl
  ·obtain⟨o',e1,e2,e3,e4,e5⟩:=o17
   obtain rfl:=sOp ho e1
   have dp:=dPo e5 hdep
   have c0:=val 4 (by omega) (by omega) (dp 4 (by simp))
   have c1:=val 8 (by omega) (by omega) (dp 8 (by simp))
   have c2:=val 12 (by omega) (by omega) (dp 12 (by simp))
   have c3:=val 16 (by omega) (by omega) (dp 16 (by simp))
   obtain⟨s0,f0,t0⟩:∃ s:SL,a.tmps.getD 22 undef=s.v∧TS B w s (f k 0):=c0
   obtain⟨s1,f1,t1⟩:∃ s:SL,a.tmps.getD 26 undef=s.v∧TS B w s (f k 1):=c1
   obtain⟨s2,f2,t2⟩:∃ s:SL,a.tmps.getD 30 undef=s.v∧TS B w s (f k 2):=c2
   obtain⟨s3,f3,t3⟩:∃ s:SL,a.tmps.getD 34 undef=s.v∧TS B w s (f k 3):=c3
   refine wVa (v:=.agg #[s0.v,s1.v,s2.v,s3.v]) (w':=w) ho e4 ?_ (by rw[e2];exact go (by omega) (Below.refl _ _) (show ∃ s:Nat→SL,Value.agg #[s0.v,s1.v,s2.v,s3.v]=.agg #[(s 0).v,(s 1).v,(s 2).v,(s 3).v]∧∀ j,j<4→TS B w (s j) (f k j) from ⟨four s0 s1 s2 s3,rfl,fun j hj=>by
    rcases (show j=0∨j=1∨j=2∨j=3 by omega) with rfl|rfl|rfl|rfl
    ·exact t0
    ·exact t1
    ·exact t2
    ·exact t3⟩))
   simp[execOp,e3,ev,f0,f1,f2,f3,run_build52]
  ·obtain⟨o',e1,e2,e3,e4,e5⟩:=o18
   obtain rfl:=sOp ho e1
   have dp:=dPo e5 hdep
   obtain⟨s,f0,t0⟩:∃ s:Nat→SL,a.tmps.getD 35 undef=.agg #[(s 0).v,(s 1).v,(s 2).v,(s 3).v]∧∀ j,j<4→TS B w (s j) (f k j):=val 17 (by omega) (by omega) (dp 17 (by simp))
   refine wVa (v:=.slice (some ⟨w.heap.size,0,none⟩) 1 1) (w':=w.alloc (.cells #[(s 0).v,(s 1).v,(s 2).v,(s 3).v] 61)) ho e4 ?_ (by rw[e2];exact go (by omega) (bNw (Below.refl _ _) _) (show ∃ (g:Nat) (s':Nat→SL),Value.slice (some ⟨w.heap.size,0,none⟩) 1 1=.slice (some ⟨g,0,none⟩) 1 1∧Blk 61 (w.alloc (.cells #[(s 0).v,(s 1).v,(s 2).v,(s 3).v] 61)) g #[(s' 0).v,(s' 1).v,(s' 2).v,(s' 3).v]∧∀ j,j<4→TS B (w.alloc (.cells #[(s 0).v,(s 1).v,(s 2).v,(s 3).v] 61)) (s' j) (f k j) from ⟨_,s,rfl,Blk.new 61 w _,fun j hj=>(t0 j hj).below (bNw (Below.refl _ _) _)⟩))
   simp[execOp,e3,ev,f0,run_build22]
  ·obtain⟨o',e1,e2,e3,e4,e5⟩:=o19
   obtain rfl:=sOp ho e1
   have dp:=dPo e5 hdep
   have f0:a.tmps.getD 18 undef=v0:=val 0 (by omega) (by omega) (dp 0 (by simp))
   obtain⟨g,s,f1,qg,ts⟩:∃ (g:Nat) (s:Nat→SL),a.tmps.getD 36 undef=.slice (some ⟨g,0,none⟩) 1 1∧Blk 61 w g #[(s 0).v,(s 1).v,(s 2).v,(s 3).v]∧∀ j,j<4→TS B w (s j) (f k j):=val 18 (by omega) (by omega) (dp 18 (by simp))
   have hw0:=hw2 hl
   obtain⟨v',w',hrn,hbw,_,_,hta⟩:=run_push w o.type B k v0 Y f s g 1 (hT.below hw0) qg ts hk hsB
   refine wVa (v:=v') (w':=w') ho e4 ?_ ?_
   ·simp only[execOp,e3,resolve,invoke,builtin,Sem.run_bind,Sem.run_pure,Result.andThen_ok,List.map_toArray,List.map_cons,List.map_nil,ev,f0,f1,hrn]
   ·rw[e2]
    have hD:ownD 19=some 37:=rfl
    refine hI.put hi hD (by omega) (inj _ hD) ⟨hw1.trans hbw,(fun h=>by simp at h),fun h=>?_⟩ (show ∃ s:Nat→SL,TA B w' v' (k+1) (upd Y k s) f from ⟨s,hta⟩) ?_
    ·rw[get_put a 37 v' 3 (by rw[hI.size];exact Nat.lt_of_lt_of_le (by decide) hN),if_neg (by decide)]
     exact hw3 (by simp only[Bool.or_eq_false_iff] at h;exact h.1)
    ·intro j u hj hlj hne hf
     unfold ownG at hf ⊢
     by_cases hj19:j<19
     ·rw[if_pos hj19]
      intro h
      simp at h
     ·exfalso
      have:j=20:=by omega
      subst this
      have:=hcl.dep o20 hlj 19 (by simp)
      rw[hl] at this
      cases this
  ·obtain⟨o',e1,e2,e3,e4,e5⟩:=o20
   obtain rfl:=sOp ho e1
   have dp:=dPo e5 hdep
   have l19:=dp 19 (by simp)
   obtain⟨s,hta⟩:∃ s:Nat→SL,TA B w (a.tmps.getD 37 undef) (k+1) (upd Y k s) f:=hI.val 19 37 (by omega) rfl l19
   refine wVa (v:=a.tmps.getD 37 undef) (w':=w) ho e4 (by simp[execOp,e3,ev]) ?_
   rw[e2]
   have hD:ownD 20=some 3:=rfl
   refine hI.put hi hD (by omega) (inj _ hD) ⟨hw1,(fun h=>by simp[l19] at h),(fun h=>by simp at h)⟩ (show ∃ s:Nat→SL,TA B w _ (k+1) (upd Y k s) f from ⟨s,hta⟩) ?_
   intro j u hj hlj hne hf
   unfold ownG at hf ⊢
   by_cases hj19:j<19
   ·rw[if_pos hj19]
    intro h
    simp[l19] at h
   ·rw[if_neg hj19] at hf ⊢
    exact hf
 ·intro l a w hall hI
  obtain⟨hw1,_,_⟩:=hI.world
  obtain⟨s,hta⟩:∃ s:Nat→SL,TA B w (a.tmps.getD 3 undef) (k+1) (upd Y k s) f:=hI.val 20 3 (by omega) rfl (hall 20 (by omega))
  exact fin a w s hI.size hI.defers (fun s hs=>hI.kept s fun i hi=>ownD_ne hs) hw1 hta
end
section
open Go.Sort hiding Below
structure FitsA (m:AdV):Prop where
 ln:m.ln≤20
 f:∀ i,i<m.ln→∀ j,j<4→(m.f i j).length≤140737488351232
end
end Go.Proofs.YthliomlmhfjhnaaGreat

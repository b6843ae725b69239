/- Texts put together. -/
import Derived.Test.YtbkjhfmehemgpaaGreatFb0
import Derived.Test.YtbkjhfmehemgpaaGreatFb7
import Derived.Test.YtbkjhfmehemgpaaGreatFb17
import Derived.Test.YtbkjhfmehemgpaaGreatFb10
import Derived.ChangeMaps5
import Derived.ChangeOld
import Derived.Lib.SmallJoins
import Derived.SizedLaws
namespace Go.Proofs.YtbkjhfmehemgpaaGreat
set_option maxRecDepth 20000
set_option maxHeartbeats 16000000
open Go.ChangeShapes Go.WideShapes Go.ChangeAt Go.RowKit
set_option linter.unusedVariables false
set_option linter.unusedSimpArgs false
structure Cq where
 d:Int
 h:Int
 l:Int
 v:Int
 u:Int
 x:Int
 t:Int
 n:Int
structure Aq where
 k:Int
 a:Option Addr
 n:Nat
 c:Nat
 L:Int
 S:Int
 sd:Int
 T:Int
 H:Nat
 B:Int
 E:Int
abbrev Cq.cs (q:Cq):Array Value:=#[.int .i64 q.d,.int .i64 q.h,.int .i64 q.l,.int .i64 q.v,.int .i64 q.u,.int .i64 q.x,.int .i64 q.t,.int .i64 q.n]
abbrev Aq.cs (q:Aq):Array Value:=#[.int .i64 q.k,.slice q.a q.n q.c,.int .i64 q.L,.int .i64 q.S,.int .u64 q.sd,.int .i64 q.T,.float .f64 q.H,.int .i64 q.B,.int .i64 q.E]
abbrev Cq.w (q:Cq):Value:=.agg q.cs
abbrev Aq.w (q:Aq):Value:=.agg q.cs
def endZ (c:Cq)(q:Aq):Bool:=decide (1≤q.L) && decide (q.S<c.v)
def choiceZ (c:Cq)(q:Aq):Bool:=decide (1≤q.T) && (decide (q.T≤c.v) && !isN q.H)
def triesZ (q:Aq):Bool:=decide (1≤q.B) && (decide (q.B≤4) && (decide (0≤q.E) && decide (q.E≤64)))
def kindZ (c:Cq)(q:Aq):Bool:=if q.k=4 then true else if q.k=3 then triesZ q && endZ c q else if q.k=2 then choiceZ c q && endZ c q else if q.k=1 then endZ c q else false
def promptZ (c:Cq)(zs:List Int):Bool:=decide (0<zs.length) && zs.all (fun z=>decide (0≤z) && decide (z<c.v))
def longZ (q:Aq):Bool:=if q.k=4 then decide (24<(q.n:Int)) else decide (24-(q.n:Int)<q.L)
def Cq.ok (c:Cq):Bool:=okB c.d c.h c.l c.v c.u c.x c.t c.n
def checkZ (c:Cq)(q:Aq)(zs:List Int):Int:=if c.ok && (promptZ c zs && kindZ c q) then if longZ q then 4 else 0 else 1
theorem Blk.ask {w:World}{b:Nat}{q:Aq}(h:Blk 28 w b q.cs):w.cell? ⟨b,0,none⟩=some (.int .i64 q.k)∧w.cell? ⟨b,1,none⟩=some (.slice q.a q.n q.c)∧w.cell? ⟨b,2,none⟩=some (.int .i64 q.L)∧w.cell? ⟨b,3,none⟩=some (.int .i64 q.S)∧w.cell? ⟨b,4,none⟩=some (.int .u64 q.sd)∧w.cell? ⟨b,5,none⟩=some (.int .i64 q.T)∧w.cell? ⟨b,6,none⟩=some (.float .f64 q.H)∧w.cell? ⟨b,7,none⟩=some (.int .i64 q.B)∧w.cell? ⟨b,8,none⟩=some (.int .i64 q.E) :=
 ⟨h.cell 0 rfl,h.cell 1 rfl,h.cell 2 rfl,h.cell 3 rfl,h.cell 4 rfl,h.cell 5 rfl,h.cell 6 rfl,h.cell 7 rfl,h.cell 8 rfl⟩
theorem end_call (c:Cq)(q:Aq)(w:World):Calls Tryz.prog 103 #[c.w,q.w] w fun e w'=>e=.returned (.bool (endZ c q))∧Below w.heap.size w w':=by
 have hb:=bNw (bNw (Below.refl w.heap.size w) (.cells c.cs 23)) (.cells q.cs 28)
 by_cases h1:1≤q.L<;>by_cases h2:q.S<c.v <;>
 ·go_enter Tryz.func103,Tryz.ntmps103
  go_wp2
  go_ret
  exact⟨by simp[endZ,h1,h2],hb⟩
theorem tries_call (q:Aq)(w:World):Calls Tryz.prog 102 #[q.w] w fun e w'=>e=.returned (.bool (triesZ q))∧Below w.heap.size w w':=by
 have hb:=bNw (Below.refl w.heap.size w) (.cells q.cs 28)
 by_cases h1:1≤q.B<;>by_cases h2:q.B≤4<;>by_cases h3:0≤q.E<;>by_cases h4:q.E≤64 <;>
 first|omega|(
  go_enter Tryz.func102,Tryz.ntmps102
  go_wp2
  go_ret
  exact⟨by simp[triesZ,h1,h2,h3,h4],hb⟩)
theorem choice_call (c:Cq)(q:Aq)(w:World):Calls Tryz.prog 104 #[c.w,q.w] w fun e w'=>e=.returned (.bool (choiceZ c q))∧Below w.heap.size w w':=by
 have hb:=bNw (bNw (Below.refl w.heap.size w) (.cells c.cs 23)) (.cells q.cs 28)
 have k:=heat_call q.H
 have eE:fixE q.H=0↔isN q.H=false:=by unfold fixE;cases isN q.H<;>simp
 obtain⟨E,hE⟩:∃ E,fixE q.H=E:=⟨_,rfl⟩
 rw[hE] at eE
 simp only[hE] at k
 clear hE
 by_cases h1:1≤q.T<;>by_cases h2:q.T≤c.v<;>by_cases h3:E=0 <;>
 ·go_enter Tryz.func104,Tryz.ntmps104
  go_wp2_with (go_at_call 87;refine (k _).mono ?_;rintro e W1 ⟨rfl,h⟩;obtain rfl:=h.symm;clear h)
  go_ret
  exact⟨by cases hn:isN q.H<;>simp_all [choiceZ],hb⟩
theorem long_call (q:Aq)(w:World)(hn:(q.n:Int)≤9223372036854775807):Calls Tryz.prog 65 #[q.w] w fun e w'=>e=.returned (.bool (longZ q))∧Below w.heap.size w w':=by
 have hb:=bNw (Below.refl w.heap.size w) (.cells q.cs 28)
 by_cases h1:q.k=4<;>by_cases h2:24<(q.n:Int)<;>by_cases h3:24-(q.n:Int)<q.L <;>
 ·go_enter Tryz.func65,Tryz.ntmps65
  go_wp2
  go_ret
  exact⟨by simp[longZ,h1,h2,h3]<;>omega,hb⟩
theorem kind_call (c:Cq)(q:Aq)(w:World):Calls Tryz.prog 64 #[c.w,q.w] w fun e w'=>e=.returned (.bool (kindZ c q))∧Below w.heap.size w w':=by
 have hb:=bNw (bNw (Below.refl w.heap.size w) (.cells c.cs 23)) (.cells q.cs 28)
 have q0:Blk 23 ((w.alloc (.cells c.cs 23)).alloc (.cells q.cs 28)) w.heap.size c.cs:=(Blk.new 23 w _).kept (bNw (Below.refl _ _) _)
 have q1:Blk 28 ((w.alloc (.cells c.cs 23)).alloc (.cells q.cs 28)) (w.heap.size+1) q.cs:=by simpa using Blk.new 28 (w.alloc (.cells c.cs 23)) q.cs
 obtain⟨c0,c1,c2,c3,c4,c5,c6,c7⟩:=q0.cfg
 obtain⟨a0,a1,a2,a3,a4,a5,a6,a7,a8⟩:=q1.ask
 have ke:=end_call c q
 have kc:=choice_call c q
 have kt:=tries_call q
 obtain⟨be,hbe⟩:∃ b,endZ c q=b:=⟨_,rfl⟩
 obtain⟨bc,hbc⟩:∃ b,choiceZ c q=b:=⟨_,rfl⟩
 obtain⟨bt,hbt⟩:∃ b,triesZ q=b:=⟨_,rfl⟩
 unfold kindZ
 simp only[hbe,hbc,hbt] at ke kc kt ⊢
 clear hbe hbc hbt
 have B:∀ z:Int,q.k≠z→(q.k==z)=false:=fun z h=>by simpa using h
 by_cases h1:q.k=4
 ·rw[if_pos h1]
  have e1:(q.k==4)=true:=by simpa using h1
  clear B h1
  go_enter Tryz.func64,Tryz.ntmps64
  go_wp2_with (first
   | (go_at_call 102;refine (kt _).mono ?_;rintro e W1 ⟨rfl,h⟩;replace q0:=q0.kept h;replace q1:=q1.kept h;replace hb:=bTn hb h;clear c0 c1 c2 c3 c4 c5 c6 c7 a0 a1 a2 a3 a4 a5 a6 a7 a8;obtain⟨c0,c1,c2,c3,c4,c5,c6,c7⟩:=q0.cfg;obtain⟨a0,a1,a2,a3,a4,a5,a6,a7,a8⟩:=q1.ask;clear h kt)
   | (go_at_call 104;refine (kc _).mono ?_;rintro e W1 ⟨rfl,h⟩;replace q0:=q0.kept h;replace q1:=q1.kept h;replace hb:=bTn hb h;clear c0 c1 c2 c3 c4 c5 c6 c7 a0 a1 a2 a3 a4 a5 a6 a7 a8;obtain⟨c0,c1,c2,c3,c4,c5,c6,c7⟩:=q0.cfg;obtain⟨a0,a1,a2,a3,a4,a5,a6,a7,a8⟩:=q1.ask;clear h kc)
   | (go_at_call 103;refine (ke _).mono ?_;rintro e W1 ⟨rfl,h⟩;replace hb:=bTn hb h;clear h ke))
  go_ret
  exact⟨by simp[],hb⟩
 rw[if_neg h1]
 have f1:=B 4 h1
 by_cases h2:q.k=3
 ·rw[if_pos h2]
  have e2:(q.k==3)=true:=by simpa using h2
  clear B h1 h2
  cases bt <;>
  ·go_enter Tryz.func64,Tryz.ntmps64
   go_wp2_with (first
    | (go_at_call 102;refine (kt _).mono ?_;rintro e W1 ⟨rfl,h⟩;replace q0:=q0.kept h;replace q1:=q1.kept h;replace hb:=bTn hb h;clear c0 c1 c2 c3 c4 c5 c6 c7 a0 a1 a2 a3 a4 a5 a6 a7 a8;obtain⟨c0,c1,c2,c3,c4,c5,c6,c7⟩:=q0.cfg;obtain⟨a0,a1,a2,a3,a4,a5,a6,a7,a8⟩:=q1.ask;clear h kt)
    | (go_at_call 104;refine (kc _).mono ?_;rintro e W1 ⟨rfl,h⟩;replace q0:=q0.kept h;replace q1:=q1.kept h;replace hb:=bTn hb h;clear c0 c1 c2 c3 c4 c5 c6 c7 a0 a1 a2 a3 a4 a5 a6 a7 a8;obtain⟨c0,c1,c2,c3,c4,c5,c6,c7⟩:=q0.cfg;obtain⟨a0,a1,a2,a3,a4,a5,a6,a7,a8⟩:=q1.ask;clear h kc)
    | (go_at_call 103;refine (ke _).mono ?_;rintro e W1 ⟨rfl,h⟩;replace hb:=bTn hb h;clear h ke))
   go_ret
   exact⟨by simp[],hb⟩
 rw[if_neg h2]
 have f2:=B 3 h2
 by_cases h3:q.k=2
 ·rw[if_pos h3]
  have e3:(q.k==2)=true:=by simpa using h3
  clear B h1 h2 h3
  cases bc <;>
  ·go_enter Tryz.func64,Tryz.ntmps64
   go_wp2_with (first
    | (go_at_call 102;refine (kt _).mono ?_;rintro e W1 ⟨rfl,h⟩;replace q0:=q0.kept h;replace q1:=q1.kept h;replace hb:=bTn hb h;clear c0 c1 c2 c3 c4 c5 c6 c7 a0 a1 a2 a3 a4 a5 a6 a7 a8;obtain⟨c0,c1,c2,c3,c4,c5,c6,c7⟩:=q0.cfg;obtain⟨a0,a1,a2,a3,a4,a5,a6,a7,a8⟩:=q1.ask;clear h kt)
    | (go_at_call 104;refine (kc _).mono ?_;rintro e W1 ⟨rfl,h⟩;replace q0:=q0.kept h;replace q1:=q1.kept h;replace hb:=bTn hb h;clear c0 c1 c2 c3 c4 c5 c6 c7 a0 a1 a2 a3 a4 a5 a6 a7 a8;obtain⟨c0,c1,c2,c3,c4,c5,c6,c7⟩:=q0.cfg;obtain⟨a0,a1,a2,a3,a4,a5,a6,a7,a8⟩:=q1.ask;clear h kc)
    | (go_at_call 103;refine (ke _).mono ?_;rintro e W1 ⟨rfl,h⟩;replace hb:=bTn hb h;clear h ke))
   go_ret
   exact⟨by simp[],hb⟩
 rw[if_neg h3]
 have f3:=B 2 h3
 by_cases h4:q.k=1
 ·rw[if_pos h4]
  have e4:(q.k==1)=true:=by simpa using h4
  clear B h1 h2 h3 h4
  go_enter Tryz.func64,Tryz.ntmps64
  go_wp2_with (first
   | (go_at_call 102;refine (kt _).mono ?_;rintro e W1 ⟨rfl,h⟩;replace q0:=q0.kept h;replace q1:=q1.kept h;replace hb:=bTn hb h;clear c0 c1 c2 c3 c4 c5 c6 c7 a0 a1 a2 a3 a4 a5 a6 a7 a8;obtain⟨c0,c1,c2,c3,c4,c5,c6,c7⟩:=q0.cfg;obtain⟨a0,a1,a2,a3,a4,a5,a6,a7,a8⟩:=q1.ask;clear h kt)
   | (go_at_call 104;refine (kc _).mono ?_;rintro e W1 ⟨rfl,h⟩;replace q0:=q0.kept h;replace q1:=q1.kept h;replace hb:=bTn hb h;clear c0 c1 c2 c3 c4 c5 c6 c7 a0 a1 a2 a3 a4 a5 a6 a7 a8;obtain⟨c0,c1,c2,c3,c4,c5,c6,c7⟩:=q0.cfg;obtain⟨a0,a1,a2,a3,a4,a5,a6,a7,a8⟩:=q1.ask;clear h kc)
   | (go_at_call 103;refine (ke _).mono ?_;rintro e W1 ⟨rfl,h⟩;replace hb:=bTn hb h;clear h ke))
  go_ret
  exact⟨by simp[],hb⟩
 ·rw[if_neg h4]
  have f4:=B 1 h4
  clear B h1 h2 h3 h4
  go_enter Tryz.func64,Tryz.ntmps64
  go_wp2_with (first
   | (go_at_call 102;refine (kt _).mono ?_;rintro e W1 ⟨rfl,h⟩;replace q0:=q0.kept h;replace q1:=q1.kept h;replace hb:=bTn hb h;clear c0 c1 c2 c3 c4 c5 c6 c7 a0 a1 a2 a3 a4 a5 a6 a7 a8;obtain⟨c0,c1,c2,c3,c4,c5,c6,c7⟩:=q0.cfg;obtain⟨a0,a1,a2,a3,a4,a5,a6,a7,a8⟩:=q1.ask;clear h kt)
   | (go_at_call 104;refine (kc _).mono ?_;rintro e W1 ⟨rfl,h⟩;replace q0:=q0.kept h;replace q1:=q1.kept h;replace hb:=bTn hb h;clear c0 c1 c2 c3 c4 c5 c6 c7 a0 a1 a2 a3 a4 a5 a6 a7 a8;obtain⟨c0,c1,c2,c3,c4,c5,c6,c7⟩:=q0.cfg;obtain⟨a0,a1,a2,a3,a4,a5,a6,a7,a8⟩:=q1.ask;clear h kc)
   | (go_at_call 103;refine (ke _).mono ?_;rintro e W1 ⟨rfl,h⟩;replace hb:=bTn hb h;clear h ke))
  go_ret
  exact⟨by simp[],hb⟩
section
theorem ac24:Tryz.prog.cellsOf 25=1:=by kernel_rfl
theorem ac25:Tryz.prog.cellsOf 24=1:=by kernel_rfl
theorem ac26:Tryz.prog.cellsOf 26=1:=by kernel_rfl
theorem ac3:Tryz.prog.cellsOf 3=1:=by kernel_rfl
structure AkAt (w:World) (q:Aq) (zs:List Int):Prop where
 ws:(Lit.int .u64 q.sd).wf=true
 wL:(Lit.int .i64 q.L).wf=true
 t:Reads .i64 w q.a q.n zs
 te:q.a=none→q.c=0
 tl:q.n≤q.c
section
variable {H:Type}{enc:TypeId × Value→H}{W:World}
theorem trod_f64 {base fuel:Nat}{spare:Nat→Bool}{held:Bool}{c:Value}{x:DataW H × List MemPlace}(h:DataW.trod enc Tryz.prog W base spare held fuel 26 [c]=some x):∃ b,c=.float .f64 b:=by
 cases fuel with
 | zero=>simp[DataW.trod] at h
 | succ n =>
  unfold DataW.trod at h
  rw[Tryz.underlying26] at h
  split at h<;>simp_all
theorem open_prompt {fuel:Nat}{c:Value}{x:DataW H × List MemPlace}(h:DataW.trod enc Tryz.prog W 0 (fun _=>true) true fuel 25 [c]=some x) :
  ∃ a n cp zs,c=.slice a n cp∧Reads .i64 W a n zs∧(a=none→cp=0)∧n≤cp:=by
 rcases open_ints Tryz.underlying25 Tryz.underlying3 (by kernel_rfl) h with⟨hcs,hd⟩|⟨y,l,cp,zs,hcs,_,hl,hm,hz,hd,hcell,hwz⟩
 ·obtain rfl:c=.slice none 0 0:=by simpa using hcs
  exact⟨none,0,0,[],rfl,Reads.nil _ _,fun _=>rfl,Nat.le_refl _⟩
 ·obtain rfl:c=.slice (some y) l cp:=by simpa using hcs
  exact⟨some y,l,cp,zs.take l,rfl,Reads.of_open hl hm (by simpa using hz) hcell hwz,(fun h=>by cases h),hl⟩
theorem ask_cells {fuel:Nat}{c0 c1 c2 c3 c4 c5 c6 c7 c8:Value}{x:DataW H × List MemPlace}(h:DataW.trod enc Tryz.prog W 0 (fun _=>true) true fuel 28 [c0,c1,c2,c3,c4,c5,c6,c7,c8]=some x) :
  ∃ q zs,[c0,c1,c2,c3,c4,c5,c6,c7,c8]=(Aq.cs q).toList∧AkAt W q zs:=by
 obtain⟨xs,n,-,ex,-,hlen,hg⟩:=DataW.trod_struct Tryz.underlying28 h
 have hl:xs.length=9:=hlen.trans (by rfl)
 match xs,hl with
 | [x0,x1,x2,x3,x4,x5,x6,x7,x8],_ =>
 have one:∀ (i:Nat) (f:Field) (c:Value) (x:DataW H × List MemPlace) (t:TypeId),f.type=t→([c0,c1,c2,c3,c4,c5,c6,c7,c8].drop f.offset).take (Tryz.prog.cellsOf f.type)=[c]→some (DataW.trod enc Tryz.prog W 0 (fun _=>true) true n f.type (([c0,c1,c2,c3,c4,c5,c6,c7,c8].drop f.offset).take (Tryz.prog.cellsOf f.type)))=some (some x)→DataW.trod enc Tryz.prog W 0 (fun _=>true) true n t [c]=some x:=fun i f c x t ht hc hh=>by
  rw[hc,ht] at hh
  exact Option.some.inj hh
 have int:∀ c x,DataW.trod enc Tryz.prog W 0 (fun _=>true) true n 3 [c]=some x→∃ z,c=.int .i64 z∧(Lit.int .i64 z).wf=true:=fun c x h=>by
  obtain⟨z,ez,-,wz⟩:=DataW.trod_int Tryz.underlying3 h
  exact⟨z,by simpa using ez,wz⟩
 obtain⟨z0,rfl,-⟩:=int c0 x0 (by rw[show [c0]=([c0,c1,c2,c3,c4,c5,c6,c7,c8].drop 0).take (Tryz.prog.cellsOf 3) by rw[ac3];rfl];exact hg 0 _ rfl)
 obtain⟨pa,pn,pc,zs,rfl,t1,t2,t3⟩:=open_prompt (c:=c1) (x:=x1) (fuel:=n) (by rw[show [c1]=([.int .i64 z0,c1,c2,c3,c4,c5,c6,c7,c8].drop 1).take (Tryz.prog.cellsOf 25) by rw[ac24];rfl];exact hg 1 _ rfl)
 obtain⟨z2,rfl,w2⟩:=int c2 x2 (by rw[show [c2]=([.int .i64 z0,.slice pa pn pc,c2,c3,c4,c5,c6,c7,c8].drop 2).take (Tryz.prog.cellsOf 3) by rw[ac3];rfl];exact hg 2 _ rfl)
 obtain⟨z3,rfl,-⟩:=int c3 x3 (by rw[show [c3]=([.int .i64 z0,.slice pa pn pc,.int .i64 z2,c3,c4,c5,c6,c7,c8].drop 3).take (Tryz.prog.cellsOf 3) by rw[ac3];rfl];exact hg 3 _ rfl)
 obtain⟨z4,e4,-,w4⟩:=DataW.trod_int Tryz.underlying24 (show DataW.trod enc Tryz.prog W 0 (fun _=>true) true n 24 [c4]=some x4 by rw[show [c4]=([.int .i64 z0,.slice pa pn pc,.int .i64 z2,.int .i64 z3,c4,c5,c6,c7,c8].drop 4).take (Tryz.prog.cellsOf 24) by rw[ac25];rfl];exact hg 4 _ rfl)
 obtain rfl:c4=.int .u64 z4:=by simpa using e4
 obtain⟨z5,rfl,-⟩:=int c5 x5 (by rw[show [c5]=([.int .i64 z0,.slice pa pn pc,.int .i64 z2,.int .i64 z3,.int .u64 z4,c5,c6,c7,c8].drop 5).take (Tryz.prog.cellsOf 3) by rw[ac3];rfl];exact hg 5 _ rfl)
 obtain⟨z6,rfl⟩:=trod_f64 (c:=c6) (x:=x6) (fuel:=n) (show DataW.trod enc Tryz.prog W 0 (fun _=>true) true n 26 [c6]=some x6 by rw[show [c6]=([.int .i64 z0,.slice pa pn pc,.int .i64 z2,.int .i64 z3,.int .u64 z4,.int .i64 z5,c6,c7,c8].drop 6).take (Tryz.prog.cellsOf 26) by rw[ac26];rfl];exact hg 6 _ rfl)
 obtain⟨z7,rfl,-⟩:=int c7 x7 (by rw[show [c7]=([.int .i64 z0,.slice pa pn pc,.int .i64 z2,.int .i64 z3,.int .u64 z4,.int .i64 z5,.float .f64 z6,c7,c8].drop 7).take (Tryz.prog.cellsOf 3) by rw[ac3];rfl];exact hg 7 _ rfl)
 obtain⟨z8,rfl,-⟩:=int c8 x8 (by rw[show [c8]=([.int .i64 z0,.slice pa pn pc,.int .i64 z2,.int .i64 z3,.int .u64 z4,.int .i64 z5,.float .f64 z6,.int .i64 z7,c8].drop 8).take (Tryz.prog.cellsOf 3) by rw[ac3];rfl];exact hg 8 _ rfl)
 exact⟨⟨z0,pa,pn,pc,z2,z3,z4,z5,z6,z7,z8⟩,zs,rfl,⟨w4,w2,t1,t2,t3⟩⟩
end
end
end Go.Proofs.YtbkjhfmehemgpaaGreat

/- Texts put together. -/
import Derived.Test.YtbkjhfmehemgpaaGreatFb48
import Derived.Test.YtbkjhfmehemgpaaGreatFb6
import Derived.Test.YtbkjhfmehemgpaaGreatFb34
namespace Go.Proofs.YtbkjhfmehemgpaaGreat
set_option maxRecDepth 20000
set_option maxHeartbeats 16000000
open Go.ChangeShapes Go.WideShapes Go.ChangeAt Go.RowKit
set_option linter.unusedVariables false
set_option linter.unusedSimpArgs false
structure Kg where
 c:Cq
 s:Int
 k:Int
 q:Aq
abbrev Kg.cs (k:Kg):Array Value:=#[.int .i64 k.c.d,.int .i64 k.c.h,.int .i64 k.c.l,.int .i64 k.c.v,.int .i64 k.c.u,.int .i64 k.c.x,.int .i64 k.c.t,.int .i64 k.c.n,.int .u64 k.s,.int .i64 k.k,.int .i64 k.q.k,.slice k.q.a k.q.n k.q.c,.int .i64 k.q.L,.int .i64 k.q.S,.int .u64 k.q.sd,.int .i64 k.q.T,.float .f64 k.q.H,.int .i64 k.q.B,.int .i64 k.q.E]
abbrev Kg.w (k:Kg):Value:=.agg k.cs
def Kg.M (k:Kg):Md:=made k.c.d k.c.h k.c.l k.c.v k.c.u k.c.x k.c.t k.c.n k.s k.k
abbrev Kg.rq (k:Kg)(t:MT)(La:SL):Rq:=⟨k.M,t.E,t.L,t.N,t.O,La,k.q⟩
theorem Blk.kg {w:World}{b:Nat}{k:Kg}(h:Blk 30 w b k.cs):w.cell? ⟨b,0,none⟩=some (.int .i64 k.c.d)∧w.cell? ⟨b,1,none⟩=some (.int .i64 k.c.h)∧w.cell? ⟨b,2,none⟩=some (.int .i64 k.c.l)∧w.cell? ⟨b,3,none⟩=some (.int .i64 k.c.v)∧w.cell? ⟨b,4,none⟩=some (.int .i64 k.c.u)∧w.cell? ⟨b,5,none⟩=some (.int .i64 k.c.x)∧w.cell? ⟨b,6,none⟩=some (.int .i64 k.c.t)∧w.cell? ⟨b,7,none⟩=some (.int .i64 k.c.n)∧w.cell? ⟨b,8,none⟩=some (.int .u64 k.s)∧w.cell? ⟨b,9,none⟩=some (.int .i64 k.k) :=
 ⟨h.cell 0 rfl,h.cell 1 rfl,h.cell 2 rfl,h.cell 3 rfl,h.cell 4 rfl,h.cell 5 rfl,h.cell 6 rfl,h.cell 7 rfl,h.cell 8 rfl,h.cell 9 rfl⟩
abbrev Kg.mc (k:Kg)(t:MT):Array Value:=#[.int .i64 k.c.d,.int .i64 k.c.h,.int .i64 k.c.l,.int .i64 k.c.v,.int .i64 k.c.u,.int .i64 k.c.x,.int .i64 k.c.t,.int .i64 k.c.n,.slice t.E.a t.E.n t.E.c,.slice t.L.a t.L.n t.L.c,.slice t.N.a t.N.n t.N.c,.slice t.O.a t.O.n t.O.c]
abbrev Kg.ac (k:Kg)(L:SL):Array Value:=#[.int .i64 (adR k.k),.int .i64 (adS k.k k.s),.slice L.a L.n L.c]
structure MadeS (w:World) (k:Kg) (t:MT) (g5:Nat) (u:World):Prop where
 b:Below w.heap.size w u
 q0:Blk 30 u w.heap.size k.cs
 q5:Blk 34 u g5 (k.mc t)
 q1:∃ o:Array Value,o.size=12∧Blk 34 u (w.heap.size+1) o
 q2:∃ o:Array Value,o.size=3∧Blk 37 u (w.heap.size+1+1) o
 m:NewM (w.heap.size+3) u t.E t.L t.N t.O t.Y t.U t.D k.M.m
 h5:w.heap.size+3≤g5
 l5:g5<u.heap.size
theorem MadeS.below {w:World}{k:Kg}{t:MT}{g5:Nat}{u u':World}(h:MadeS w k t g5 u)(hb:Below u.heap.size u u'):MadeS w k t g5 u' :=
 ⟨bTn h.b hb,h.q0.kept hb,h.q5.kept hb,h.q1.imp fun _ x=>⟨x.1,x.2.kept hb⟩,h.q2.imp fun _ x=>⟨x.1,x.2.kept hb⟩,h.m.below hb,h.h5,Nat.lt_of_lt_of_le h.l5 hb.size⟩
theorem from_setRow {B g:Nat}{u:World}{cs:Array Value}(hg:g<B):From B u (u.setRow g cs):=fun p v hp hle=>(cell_setRow_other u g cs p (by omega)).trans hp
theorem but_setRow {t:TypeId}{g:Nat}{u:World}{old cs:Array Value}(h:Blk t u g old)(hs:cs.size=old.size):But g u (u.setRow g cs):=⟨rfl,rfl,rfl,by simp,fun b _ hb=>setRow_other u g b cs hb,fun cs' t' fr e=>⟨cs,setRow_heap u g cs' cs t' fr e,by have:=(show u.heap[g]? = _ from h).symm.trans e;cases this;exact hs⟩⟩
theorem blk_setRow {t:TypeId}{u:World}{b g:Nat}{cs ds:Array Value}(h:Blk t u b ds)(hb:b≠g):Blk t (u.setRow g cs) b ds:=(setRow_other u g b cs hb).trans h
theorem MadeS.set1 {w:World}{k:Kg}{t:MT}{g5:Nat}{u:World}(h:MadeS w k t g5 u){cs:Array Value}(hc:cs.size=12):MadeS w k t g5 (u.setRow (w.heap.size+1) cs):=by
 obtain⟨o,ho,hq⟩:=h.q1
 have:=h.h5
 have hl:=h.l5
 exact⟨below_setRow h.b (by omega) cs,blk_setRow h.q0 (by omega),blk_setRow h.q5 (by omega),⟨cs,hc,setRow_blk hq⟩,h.q2.imp fun _ x=>⟨x.1,blk_setRow x.2 (by omega)⟩,fun w'' hc=>h.m w'' fun p v hp hle=>hc p v (from_setRow (by omega) p v hp hle) hle,h.h5,by simpa using h.l5⟩
theorem MadeS.set2 {w:World}{k:Kg}{t:MT}{g5:Nat}{u:World}(h:MadeS w k t g5 u){cs:Array Value}(hc:cs.size=3):MadeS w k t g5 (u.setRow (w.heap.size+1+1) cs):=by
 obtain⟨o,ho,hq⟩:=h.q2
 have:=h.h5
 have hl:=h.l5
 exact⟨below_setRow h.b (by omega) cs,blk_setRow h.q0 (by omega),blk_setRow h.q5 (by omega),h.q1.imp fun _ x=>⟨x.1,blk_setRow x.2 (by omega)⟩,⟨cs,hc,setRow_blk hq⟩,fun w'' hc=>h.m w'' fun p v hp hle=>hc p v (from_setRow (by omega) p v hp hle) hle,h.h5,by simpa using h.l5⟩
def G2 (B s:Nat)(u:World)(b:Nat):Prop:=s=0∧b=B+1∨s=1∧b=B+1+1
theorem Chg.at2 {B b:Nat}{k:Option Nat}{u u':World}(h:Chg (G2 B) k u u')(hl:b<u.heap.size)(h0:b=B+1→k=some 0)(h1:b=B+1+1→k=some 1):u'.heap[b]? = u.heap[b]? :=
 h.block b hl fun s hs=>by
  rcases hs with⟨rfl,e⟩|⟨rfl,e⟩
  ·exact h0 e
  ·exact h1 e
theorem Chg.from2 {B:Nat}{k:Option Nat}{u u':World}(h:Chg (G2 B) k u u'):From (B+3) u u':=fun p v hp hle=>by
 rw[←hp]
 exact World.cell?_of_block (h.at2 (World.block_lt_of_cell? _ _ hp) (fun e=>by omega) (fun e=>by omega))
def eAd (B:Nat)(k:Kg):EntR (G2 B):=⟨fun v u=>∃ ta:SL × (Nat→Nat→SL),v=.agg (k.ac ta.1)∧NewA (B+3) u ta.1 ta.2 k.M.a,none,fun _ _ _ h ⟨ta,e,x⟩=>⟨ta,e,x.from_ h.from2⟩⟩
def eS1 (B:Nat)(k:Kg)(t:MT):EntR (G2 B):=⟨fun _ u=>Blk 34 u (B+1) (k.mc t),some 0,fun _ _ _ h x=>(h.at2 (Blk.lt x) (fun _=>rfl) (fun e=>by omega)).trans x⟩
def eS2 (B:Nat)(k:Kg):EntR (G2 B):=⟨fun _ u=>∃ ta:SL × (Nat→Nat→SL),Blk 37 u (B+1+1) (k.ac ta.1)∧NewA (B+3) u ta.1 ta.2 k.M.a,some 1,fun _ _ _ h ⟨ta,x,y⟩=>⟨ta,(h.at2 (Blk.lt x) (fun e=>by omega) (fun _=>rfl)).trans x,y.from_ h.from2⟩⟩
theorem Made_yes (k:Kg)(ok:okB k.c.d k.c.h k.c.l k.c.v k.c.u k.c.x k.c.t k.c.n=true)(hs:(Lit.int .u64 k.s).wf=true)(w:World) :
  Calls Tryz.prog 8 #[k.w] w fun e w'=>(∃ (t:MT) (ta:SL × (Nat→Nat→SL)),e=.returned (.tuple #[(k.rq t ta.1).mw,(k.rq t ta.1).aw,.bool true])∧NewM w.heap.size w' t.E t.L t.N t.O t.Y t.U t.D k.M.m∧NewA w.heap.size w' ta.1 ta.2 k.M.a)∧Below w.heap.size w w':=by
 have km:=model_yes k.c.d k.c.h k.c.l k.c.v k.c.u k.c.x k.c.t k.c.n k.s ok
 have ka:=adapt_call k.k k.c.d k.c.h k.c.l k.c.v k.c.u k.c.x k.c.t k.c.n k.s ok hs
 obtain⟨m0,em⟩:∃ m0:Array Value,m0=#[.int .i64 0,.int .i64 0,.int .i64 0,.int .i64 0,.int .i64 0,.int .i64 0,.int .i64 0,.int .i64 0,.slice none 0 0,.slice none 0 0,.slice none 0 0,.slice none 0 0]:=⟨_,rfl⟩
 obtain⟨a0,ea⟩:∃ a0:Array Value,a0=#[.int .i64 0,.int .i64 0,.slice none 0 0]:=⟨_,rfl⟩
 have q0:Blk 30 (((w.alloc (.cells k.cs 30)).alloc (.cells m0 34)).alloc (.cells a0 37)) w.heap.size k.cs:=(Blk.new 30 w k.cs).kept (bNw (bNw (Below.refl _ _) _) _)
 have q1:Blk 34 (((w.alloc (.cells k.cs 30)).alloc (.cells m0 34)).alloc (.cells a0 37)) (w.heap.size+1) m0:=(Blk.new_at 34 (w.alloc _) _ _ (by simp)).kept (bNw (Below.refl _ _) _)
 have q2:Blk 37 (((w.alloc (.cells k.cs 30)).alloc (.cells m0 34)).alloc (.cells a0 37)) (w.heap.size+1+1) a0:=Blk.new_at 37 ((w.alloc _).alloc _) _ _ (by simp)
 have hb:Below w.heap.size w (((w.alloc (.cells k.cs 30)).alloc (.cells m0 34)).alloc (.cells a0 37)):=bNw (bNw (bNw (Below.refl _ _) _) _) _
 have hz:(((w.alloc (.cells k.cs 30)).alloc (.cells m0 34)).alloc (.cells a0 37)).heap.size=w.heap.size+3:=show (((w.heap.push _).push _).push _).size=_ by simp
 rw[em,ea] at hb q0 q1 q2 hz
 obtain⟨W0,eW⟩:∃ W0,((w.alloc (.cells k.cs 30)).alloc (.cells #[.int .i64 0,.int .i64 0,.int .i64 0,.int .i64 0,.int .i64 0,.int .i64 0,.int .i64 0,.int .i64 0,.slice none 0 0,.slice none 0 0,.slice none 0 0,.slice none 0 0] 34)).alloc (.cells #[.int .i64 0,.int .i64 0,.slice none 0 0] 37)=W0:=⟨_,rfl⟩
 rw[eW] at hb q0 q1 q2 hz
 rw[←em] at q1
 rw[←ea] at q2
 have EW:=hdn eW
 clear eW
 go_enter Tryz.func8,Tryz.ntmps8
 go_upto_region 1 with fail
 rw[EW.out]
 clear EW
 have C0:=q0.kg
 obtain⟨c0,c1,c2,c3,c4,c5,c6,c7,c8,c9⟩:=C0
 go_upto_region 4 with (go_at_call 16;refine (km _).mono ?_;rintro e W1 ⟨t,rfl,hm,hb1⟩;clear c0 c1 c2 c3 c4 c5 c6 c7 c8 c9 km)
 have hx:=bNw (Below.refl W1.heap.size W1) (.cells (k.mc t) 34)
 have b0:=(bTn hb hb1).trans (hx.mono (bTn hb hb1).size)
 replace q0:=(q0.kept hb1).kept hx
 replace q1:=(q1.kept hb1).kept hx
 replace q2:=(q2.kept hb1).kept hx
 have q5:=Blk.new 34 W1 (k.mc t)
 replace hm:=hm.below hx
 have hl:w.heap.size+3≤W1.heap.size:=by have:=hb1.size;omega
 have hl5:W1.heap.size<(W1.alloc (.cells (k.mc t) 34)).heap.size:=q5.lt
 obtain⟨g5,e5⟩:∃ g5,W1.heap.size=g5:=⟨_,rfl⟩
 obtain⟨W2,e2⟩:∃ W2,W1.alloc (.cells (k.mc t) 34)=W2:=⟨_,rfl⟩
 rw[hz] at hm
 rw[e2] at b0 q0 q1 q2 q5 hm hl5
 rw[e5] at q5 hl hl5
 rw[e5,show W1.alloc (.cells _ 34)=W2 from e2]
 have S0:=MadeS.mk (t:=t) (g5:=g5) b0 q0 q5 ⟨m0,by rw[em];rfl,q1⟩ ⟨a0,by rw[ea];rfl,q2⟩ hm hl hl5
 clear b0 q0 q1 q2 q5 hm hl hl5 hb hb1 hx e2 e5
 refine wp_region_tabS (G:=G2 w.heap.size) (by kernel_rfl) (by kernel_rfl) rfl (MadeS w k t g5) [.eq (.agg (k.mc t)),.eq (.pointer (some ⟨w.heap.size,9,none⟩)),.eq (.int .i64 k.k),.eq (.pointer (some ⟨w.heap.size,0,none⟩)),.eq (.agg k.c.cs),.eq (.pointer (some ⟨w.heap.size,8,none⟩)),.eq (.int .u64 k.s),eAd w.heap.size k,eS1 w.heap.size k t,eS2 w.heap.size k,.eq (.bool true)] (stores_ne _ rfl) (S0.below (bDr (Below.refl _ _) ⟨1,rfl⟩)) ⟨?l0,?_,?_,?_,?_,?_,?_,?c7,?s8,?s9,?_,trivial⟩ ?fin
 case l0 =>
  rintro b u-hS ⟨h1,-⟩ K hK
  exact ask_load rfl h1 hS.q5 Tryz.underlying34 rfl rfl (hK _ _ (Below.refl _ _) hS rfl)
 case c7 =>
  rintro b u-hS ⟨h1,h2,h3,-⟩ K hK
  replace h1:=show b.tmps.getD 21 undef=.int .i64 k.k from h1
  replace h2:=show b.tmps.getD 23 undef=.agg k.c.cs from h2
  replace h3:=show b.tmps.getD 25 undef=.int .u64 k.s from h3
  have hle:w.heap.size+3≤u.heap.size:=by have:=hS.h5;have:=hS.l5;omega
  dsimp only
  go_wp2_with (go_at_call 17;refine (ka _).mono ?_;rintro e W3 ⟨ta,rfl,ha,h⟩;exact hK _ _ h (hS.below h) ⟨ta,rfl,ha.le hle⟩)
 case s8 =>
  rintro b u-hS ⟨h1,h2,-⟩ K hK
  obtain⟨o,ho,hq⟩:=hS.q1
  exact wp_store_row 34 (.tmp 2) (.tmp 19) rfl _ (k.mc t) h1 h2 34 o hq rfl ho (by kernel_rfl) (hK undef _ ⟨_,.inl ⟨rfl,rfl⟩,but_setRow hq ho.symm⟩ (hS.set1 rfl) (setRow_blk hq))
 case s9 =>
  rintro b u-hS ⟨h1,h2,-⟩ K hK
  obtain⟨o,ho,hq⟩:=hS.q2
  obtain⟨ta,h2,ha⟩:=h2
  exact wp_store_row 37 (.tmp 3) (.tmp 26) rfl _ (k.ac ta.1) h1 h2 37 o hq rfl ho (by kernel_rfl) (hK undef _ ⟨_,.inr ⟨rfl,rfl⟩,but_setRow hq ho.symm⟩ (hS.set2 rfl) ⟨ta,setRow_blk hq,ha.from_ (from_setRow (by omega))⟩)
 case fin =>
  rintro g u hS ⟨-,-,-,-,-,-,-,-,⟨_,f8,-⟩,⟨_,⟨ta,f9,fa⟩,-⟩,f10,-⟩
  replace f10:=show g 4=.bool true from f10
  replace f8:Blk 34 u (w.heap.size+1) (k.mc t):=f8
  simp only[List.filterMap,List.foldl,f10,Act.put,List.setIfInBounds_toArray,List.set_cons_succ,List.set_cons_zero]
  clear f10 ka
  go_wp2
  replace f9:Blk 37 u (w.heap.size+1+1) (k.ac ta.1):=f9
  have y0:=f8.cell 0 rfl
  have y1:=f8.cell 1 rfl
  have y2:=f8.cell 2 rfl
  have y3:=f8.cell 3 rfl
  have y4:=f8.cell 4 rfl
  have y5:=f8.cell 5 rfl
  have y6:=f8.cell 6 rfl
  have y7:=f8.cell 7 rfl
  have y8:=f8.cell 8 rfl
  have y9:=f8.cell 9 rfl
  have y10:=f8.cell 10 rfl
  have y11:=f8.cell 11 rfl
  have z0:=f9.cell 0 rfl
  have z1:=f9.cell 1 rfl
  have z2:=f9.cell 2 rfl
  refine bodyPost_ret (v:=.tuple #[.agg (k.mc t),.agg (k.ac ta.1),.bool true]) ?_ rfl ⟨⟨t,ta,rfl,hS.m.le (by omega),fa.le (by omega)⟩,hS.b⟩
  simp[results,Tryz.results8,go_sem,y0,y1,y2,y3,y4,y5,y6,y7,y8,y9,y10,y11,z0,z1,z2]
 all_goals
  rintro b u-hS hv K hK
  obtain⟨c0,c1,c2,c3,c4,c5,c6,c7,c8,c9⟩:=hS.q0.kg
  first
   | (obtain⟨h1,h2,-⟩:=hv;replace h1:=show b.tmps.getD _ undef=_ from h1;replace h2:=show b.tmps.getD _ undef=_ from h2)
   | (obtain⟨h1,-⟩:=hv;replace h1:=show b.tmps.getD _ undef=_ from h1)
   | skip
  try dsimp only
  go_simp
  exact hK _ _ (Below.refl _ _) hS rfl
theorem Made_no (k:Kg)(ok:okB k.c.d k.c.h k.c.l k.c.v k.c.u k.c.x k.c.t k.c.n=false)(w:World) :
  Calls Tryz.prog 8 #[k.w] w fun e w'=>(∃ t:MT,e=.returned (.tuple #[.agg #[.int .i64 0,.int .i64 0,.int .i64 0,.int .i64 0,.int .i64 0,.int .i64 0,.int .i64 0,.int .i64 0,.slice t.E.a t.E.n t.E.c,.slice t.L.a t.L.n t.L.c,.slice t.N.a t.N.n t.N.c,.slice t.O.a t.O.n t.O.c],.agg #[.int .i64 0,.int .i64 0,.slice none 0 0],.bool false]))∧Below w.heap.size w w':=by
 have km:=model_no k.c.d k.c.h k.c.l k.c.v k.c.u k.c.x k.c.t k.c.n k.s ok
 have q0:Blk 30 (((w.alloc (.cells k.cs 30)).alloc (.cells #[.int .i64 0,.int .i64 0,.int .i64 0,.int .i64 0,.int .i64 0,.int .i64 0,.int .i64 0,.int .i64 0,.slice none 0 0,.slice none 0 0,.slice none 0 0,.slice none 0 0] 34)).alloc (.cells #[.int .i64 0,.int .i64 0,.slice none 0 0] 37)) w.heap.size k.cs:=(Blk.new 30 w k.cs).kept (bNw (bNw (Below.refl _ _) _) _)
 have q1:Blk 34 (((w.alloc (.cells k.cs 30)).alloc (.cells #[.int .i64 0,.int .i64 0,.int .i64 0,.int .i64 0,.int .i64 0,.int .i64 0,.int .i64 0,.int .i64 0,.slice none 0 0,.slice none 0 0,.slice none 0 0,.slice none 0 0] 34)).alloc (.cells #[.int .i64 0,.int .i64 0,.slice none 0 0] 37)) (w.heap.size+1) _:=(Blk.new_at 34 (w.alloc _) _ _ (by simp)).kept (bNw (Below.refl _ _) _)
 have q2:Blk 37 (((w.alloc (.cells k.cs 30)).alloc (.cells #[.int .i64 0,.int .i64 0,.int .i64 0,.int .i64 0,.int .i64 0,.int .i64 0,.int .i64 0,.int .i64 0,.slice none 0 0,.slice none 0 0,.slice none 0 0,.slice none 0 0] 34)).alloc (.cells #[.int .i64 0,.int .i64 0,.slice none 0 0] 37)) (w.heap.size+1+1) _:=Blk.new_at 37 ((w.alloc _).alloc _) _ _ (by simp)
 have hb:Below w.heap.size w (((w.alloc (.cells k.cs 30)).alloc (.cells #[.int .i64 0,.int .i64 0,.int .i64 0,.int .i64 0,.int .i64 0,.int .i64 0,.int .i64 0,.int .i64 0,.slice none 0 0,.slice none 0 0,.slice none 0 0,.slice none 0 0] 34)).alloc (.cells #[.int .i64 0,.int .i64 0,.slice none 0 0] 37)):=bNw (bNw (bNw (Below.refl _ _) _) _) _
 obtain⟨W0,eW⟩:∃ W0,((w.alloc (.cells k.cs 30)).alloc (.cells #[.int .i64 0,.int .i64 0,.int .i64 0,.int .i64 0,.int .i64 0,.int .i64 0,.int .i64 0,.int .i64 0,.slice none 0 0,.slice none 0 0,.slice none 0 0,.slice none 0 0] 34)).alloc (.cells #[.int .i64 0,.int .i64 0,.slice none 0 0] 37)=W0:=⟨_,rfl⟩
 rw[eW] at hb q0 q1 q2
 have EW:=hdn eW
 clear eW
 go_enter Tryz.func8,Tryz.ntmps8
 go_upto_region 1 with fail
 rw[EW.out]
 clear EW
 have C0:=q0.kg
 obtain⟨c0,c1,c2,c3,c4,c5,c6,c7,c8,c9⟩:=C0
 go_upto_region 3 with (go_at_call 16;refine (km _).mono ?_;rintro e W1 ⟨t,rfl,hm,hb1⟩;clear c0 c1 c2 c3 c4 c5 c6 c7 c8 c9 km)
 obtain⟨mz,ez⟩:∃ mz:Array Value,mz=#[.int .i64 0,.int .i64 0,.int .i64 0,.int .i64 0,.int .i64 0,.int .i64 0,.int .i64 0,.int .i64 0,.slice t.E.a t.E.n t.E.c,.slice t.L.a t.L.n t.L.c,.slice t.N.a t.N.n t.N.c,.slice t.O.a t.O.n t.O.c]:=⟨_,rfl⟩
 rw[←ez]
 have hx:=bNw (Below.refl W1.heap.size W1) (.cells mz 34)
 have b0:=(bTn hb hb1).trans (hx.mono (bTn hb hb1).size)
 replace q1:=(q1.kept hb1).kept hx
 replace q2:=(q2.kept hb1).kept hx
 have q5:=Blk.new 34 W1 mz
 obtain⟨W2,e2⟩:∃ W2,W1.alloc (.cells mz 34)=W2:=⟨_,rfl⟩
 rw[e2] at b0 q1 q2 q5 ⊢
 refine wp_region_list ?_
 refine wpList_load_row rfl 34 (.tmp 5) rfl W1.heap.size rfl 34 mz (0,0) _ q5 Tryz.underlying34 rfl (by rw[ez];rfl) ?_
 refine wpList_build_of rfl 37 _ rfl #[.int .i64 0,.int .i64 0,.slice none 0 0] (by kernel_rfl) ?_
 refine wpList_store_row rfl 34 (.tmp 2) (.tmp 17) rfl (w.heap.size+1) mz rfl rfl 34 _ q1 (by rw[ez];rfl) (by rw[ez];rfl) (by rw[ez];kernel_rfl) ?_
 refine wpList_store_row rfl 37 (.tmp 3) (.tmp 18) rfl (w.heap.size+1+1) _ rfl rfl 37 _ (blk_setRow q2 (by omega)) rfl rfl (by kernel_rfl) ?_
 have y1:=blk_setRow (cs:=#[.int .i64 0,.int .i64 0,.slice none 0 0]) (setRow_blk (cs:=mz) q1) (show w.heap.size+1≠w.heap.size+1+1 by omega)
 have y2:=setRow_blk (cs:=#[.int .i64 0,.int .i64 0,.slice none 0 0]) (blk_setRow (cs:=mz) q2 (show w.heap.size+1+1≠w.heap.size+1 by omega))
 have b1:=below_setRow (below_setRow b0 (show w.heap.size≤w.heap.size+1 by omega) mz) (show w.heap.size≤w.heap.size+1+1 by omega) #[.int .i64 0,.int .i64 0,.slice none 0 0]
 obtain⟨W3,e3⟩:∃ W3,(W2.setRow (w.heap.size+1) mz).setRow (w.heap.size+1+1) #[.int .i64 0,.int .i64 0,.slice none 0 0]=W3:=⟨_,rfl⟩
 rw[e3] at y1 y2 b1 ⊢
 go_wp2
 clear e3 q5 b0 e2 hx
 subst ez
 have u0:=y1.cell 0 rfl
 have u1:=y1.cell 1 rfl
 have u2:=y1.cell 2 rfl
 have u3:=y1.cell 3 rfl
 have u4:=y1.cell 4 rfl
 have u5:=y1.cell 5 rfl
 have u6:=y1.cell 6 rfl
 have u7:=y1.cell 7 rfl
 have u8:=y1.cell 8 rfl
 have u9:=y1.cell 9 rfl
 have u10:=y1.cell 10 rfl
 have u11:=y1.cell 11 rfl
 have z0:=y2.cell 0 rfl
 have z1:=y2.cell 1 rfl
 have z2:=y2.cell 2 rfl
 refine bodyPost_ret (v:=.tuple #[.agg #[.int .i64 0,.int .i64 0,.int .i64 0,.int .i64 0,.int .i64 0,.int .i64 0,.int .i64 0,.int .i64 0,.slice t.E.a t.E.n t.E.c,.slice t.L.a t.L.n t.L.c,.slice t.N.a t.N.n t.N.c,.slice t.O.a t.O.n t.O.c],.agg #[.int .i64 0,.int .i64 0,.slice none 0 0],.bool false]) ?_ rfl ⟨⟨t,rfl⟩,b1⟩
 simp[results,Tryz.results8,go_sem,u0,u1,u2,u3,u4,u5,u6,u7,u8,u9,u10,u11,z0,z1,z2]
section
theorem kc30:Tryz.prog.cellsOf 30=19:=by kernel_rfl
theorem kc23:Tryz.prog.cellsOf 23=8:=by kernel_rfl
theorem kc24:Tryz.prog.cellsOf 24=1:=by kernel_rfl
theorem kc3:Tryz.prog.cellsOf 3=1:=by kernel_rfl
theorem kc28:Tryz.prog.cellsOf 28=9:=by kernel_rfl
structure KgAt (w:World) (k:Kg) (zs:List Int):Prop where
 ws:(Lit.int .u64 k.s).wf=true
 q:AkAt w k.q zs
theorem array19 {α:Type}{cs:Array α}(h:cs.size=19):∃ c0 c1 c2 c3 c4 c5 c6 c7 c8 c9 c10 c11 c12 c13 c14 c15 c16 c17 c18,cs=#[c0,c1,c2,c3,c4,c5,c6,c7,c8,c9,c10,c11,c12,c13,c14,c15,c16,c17,c18]:=by
 obtain⟨l⟩:=cs
 match l,h with
 | [c0,c1,c2,c3,c4,c5,c6,c7,c8,c9,c10,c11,c12,c13,c14,c15,c16,c17,c18],_=>exact⟨c0,c1,c2,c3,c4,c5,c6,c7,c8,c9,c10,c11,c12,c13,c14,c15,c16,c17,c18,rfl⟩
section
variable {H:Type}{enc:TypeId × Value→H}{W:World}
theorem open_kg {b0:Nat}{r:Reach}{v:Value}{dd:DataW H}{p:List MemPlace}(hv:Value.okWide Tryz.prog W r b0 30 v)(h:DataW.Trod enc Tryz.prog W 0 (fun _=>true) true 30 v dd p):∃ (k:Kg) (zs:List Int),v=k.w∧KgAt W k zs:=by
 obtain⟨cs,rfl,hsz⟩:=okWide_struct Tryz.underlying30 hv
 obtain⟨c0,c1,c2,c3,c4,c5,c6,c7,c8,c9,c10,c11,c12,c13,c14,c15,c16,c17,c18,rfl⟩:=array19 (hsz.trans kc30)
 obtain⟨fuel,hf⟩:=h
 have hf':DataW.trod enc Tryz.prog W 0 (fun _=>true) true fuel 30 [c0,c1,c2,c3,c4,c5,c6,c7,c8,c9,c10,c11,c12,c13,c14,c15,c16,c17,c18]=some (dd,p):=by simpa [Value.cells] using hf
 obtain⟨xs,n,-,ex,-,hlen,hg⟩:=DataW.trod_struct Tryz.underlying30 hf'
 have hl:xs.length=4:=hlen.trans (by rfl)
 match xs,hl with
 | [x0,x1,x2,x3],_ =>
 have g0:DataW.trod enc Tryz.prog W 0 (fun _=>true) true n 23 [c0,c1,c2,c3,c4,c5,c6,c7]=some x0:=by rw[show [c0,c1,c2,c3,c4,c5,c6,c7]=([c0,c1,c2,c3,c4,c5,c6,c7,c8,c9,c10,c11,c12,c13,c14,c15,c16,c17,c18].drop 0).take (Tryz.prog.cellsOf 23) by rw[kc23];rfl];exact hg 0 _ rfl
 have g1:DataW.trod enc Tryz.prog W 0 (fun _=>true) true n 24 [c8]=some x1:=by rw[show [c8]=([c0,c1,c2,c3,c4,c5,c6,c7,c8,c9,c10,c11,c12,c13,c14,c15,c16,c17,c18].drop 8).take (Tryz.prog.cellsOf 24) by rw[kc24];rfl];exact hg 1 _ rfl
 have g2:DataW.trod enc Tryz.prog W 0 (fun _=>true) true n 3 [c9]=some x2:=by rw[show [c9]=([c0,c1,c2,c3,c4,c5,c6,c7,c8,c9,c10,c11,c12,c13,c14,c15,c16,c17,c18].drop 9).take (Tryz.prog.cellsOf 3) by rw[kc3];rfl];exact hg 2 _ rfl
 have g3:DataW.trod enc Tryz.prog W 0 (fun _=>true) true n 28 [c10,c11,c12,c13,c14,c15,c16,c17,c18]=some x3:=by rw[show [c10,c11,c12,c13,c14,c15,c16,c17,c18]=([c0,c1,c2,c3,c4,c5,c6,c7,c8,c9,c10,c11,c12,c13,c14,c15,c16,c17,c18].drop 10).take (Tryz.prog.cellsOf 28) by rw[kc28];rfl];exact hg 3 _ rfl
 obtain⟨cd,ch,cl,cv,cu,cx,ct,cn,rfl,rfl,rfl,rfl,rfl,rfl,rfl,rfl⟩:=cfg_cells g0
 obtain⟨s,es,-,ws⟩:=DataW.trod_int Tryz.underlying24 g1
 obtain⟨rk,er,-,wr⟩:=DataW.trod_int Tryz.underlying3 g2
 obtain rfl:c8=.int .u64 s:=by simpa using es
 obtain rfl:c9=.int .i64 rk:=by simpa using er
 obtain⟨q,zs,eq,hq⟩:=ask_cells g3
 simp only[List.cons.injEq,and_true] at eq
 obtain⟨rfl,rfl,rfl,rfl,rfl,rfl,rfl,rfl,rfl⟩:=eq
 exact⟨⟨⟨cd,ch,cl,cv,cu,cx,ct,cn⟩,s,rk,q⟩,zs,rfl,⟨ws,hq⟩⟩
end
theorem AkAt.below {w w':World}{q:Aq}{zs:List Int}(h:AkAt w q zs)(hb:Below w.heap.size w w'):AkAt w' q zs:=⟨h.ws,h.wL,h.t.below hb,h.te,h.tl⟩
end
theorem refShape_typed (h v u x t n:Int)(D DD XD UD VD ln nW cW:Nat)(xa:Addr)(ws:List Int)(e1:v*(D:Int)=(VD:Int))(e2:(D:Int)*(D:Int)=(DD:Int))(e3:x*(D:Int)=(XD:Int))(e4:u*(D:Int)=(UD:Int))(e5:(D:Int)*u=(UD:Int))(xlt:x<1)
  (b0:D≤8) (b1:VD≤1000) (b2:DD≤1000) (b3:XD≤1000) (b4:UD≤1000) (l1:ln≤2) (w:World)
  (k10:∀ w,Calls Tryz.prog 46 #[.agg #[.int .i64 (D:Int),.int .i64 h,.int .i64 (ln:Int),.int .i64 v,.int .i64 u,.int .i64 x,.int .i64 t,.int .i64 n]] w fun e w'=>e=.returned (.bool true)∧Below w.heap.size w w')
  (k12:∀ w,Calls Tryz.prog 37 #[.agg #[.int .i64 (D:Int),.int .i64 h,.int .i64 (ln:Int),.int .i64 v,.int .i64 u,.int .i64 x,.int .i64 t,.int .i64 n]] w fun e w'=>e=.returned (.int .i64 (nW:Int))∧Below w.heap.size w w')
  (rd:Reads .i8 w (some xa) nW ws) (hc:nW≤cW) (hn:nW≤100000) (hfit:offs (planC ln 1 D DD XD UD VD) (1+ln*pl 1+2)=nW) (hxa:xa.block<w.heap.size) :
  Calls Tryz.prog 33 #[.agg #[.int .i64 (D:Int),.int .i64 h,.int .i64 (ln:Int),.int .i64 v,.int .i64 u,.int .i64 x,.int .i64 t,.int .i64 n],.slice (some xa) nW cW] w fun e w'=>∃ E L N O:SL,∃ Y U D',e=.returned (.tuple #[.agg #[.int .i64 (D:Int),.int .i64 h,.int .i64 (ln:Int),.int .i64 v,.int .i64 u,.int .i64 x,.int .i64 t,.int .i64 n,.slice E.a E.n E.c,.slice L.a L.n L.c,.slice N.a N.n N.c,.slice O.a O.n O.c],.int .i64 0]) ∧
   TM w.heap.size w' E L N O Y U D' (ofSeq ln 1 (seg (planC ln 1 D DD XD UD VD) ws))∧Below w.heap.size w w':=by
 have cl:=fun i r hi hr=>planC_list (ln:=ln) (ne:=1) (D:=D) (DD:=DD) (XD:=XD) (UD:=UD) (VD:=VD) i r hi hr
 have cu:=fun i j hi hj=>planC_up (ln:=ln) (ne:=1) (D:=D) (DD:=DD) (XD:=XD) (UD:=UD) (VD:=VD) i j hi hj
 have cd:=fun i j hi hj=>planC_down (ln:=ln) (ne:=1) (D:=D) (DD:=DD) (XD:=XD) (UD:=UD) (VD:=VD) i j hi hj
 have cn:=planC_norm (ln:=ln) (ne:=1) (D:=D) (DD:=DD) (XD:=XD) (UD:=UD) (VD:=VD)
 have co:=planC_out (ln:=ln) (ne:=1) (D:=D) (DD:=DD) (XD:=XD) (UD:=UD) (VD:=VD)
 have c0:planC ln 1 D DD XD UD VD 0=VD:=rfl
 obtain⟨cnt,ecnt⟩:∃ c,planC ln 1 D DD XD UD VD=c:=⟨_,rfl⟩
 rw[ecnt] at hfit cn co c0 ⊢
 simp only[ecnt] at cl cu cd
 clear ecnt
 have FIT:∀ k,k<1+ln*pl 1+2→offs cnt (k+1)≤nW:=fun k hk=>by rw[←hfit];exact offs_mono cnt hk
 have hb:=bNw (bNw (Below.refl w.heap.size w) (.cells #[.int .i64 (D:Int),.int .i64 h,.int .i64 (ln:Int),.int .i64 v,.int .i64 u,.int .i64 x,.int .i64 t,.int .i64 n] 23)) (.cells #[.int .i64 0,.int .i64 0,.int .i64 0,.int .i64 0,.int .i64 0,.int .i64 0,.int .i64 0,.int .i64 0,.slice none 0 0,.slice none 0 0,.slice none 0 0,.slice none 0 0] 34)
 have q0:Blk 23 ((w.alloc (.cells #[.int .i64 (D:Int),.int .i64 h,.int .i64 (ln:Int),.int .i64 v,.int .i64 u,.int .i64 x,.int .i64 t,.int .i64 n] 23)).alloc (.cells #[.int .i64 0,.int .i64 0,.int .i64 0,.int .i64 0,.int .i64 0,.int .i64 0,.int .i64 0,.int .i64 0,.slice none 0 0,.slice none 0 0,.slice none 0 0,.slice none 0 0] 34)) w.heap.size #[.int .i64 (D:Int),.int .i64 h,.int .i64 (ln:Int),.int .i64 v,.int .i64 u,.int .i64 x,.int .i64 t,.int .i64 n]:=(Blk.new 23 w _).kept (bNw (Below.refl _ _) _)
 have qr:Blk 34 ((w.alloc (.cells #[.int .i64 (D:Int),.int .i64 h,.int .i64 (ln:Int),.int .i64 v,.int .i64 u,.int .i64 x,.int .i64 t,.int .i64 n] 23)).alloc (.cells #[.int .i64 0,.int .i64 0,.int .i64 0,.int .i64 0,.int .i64 0,.int .i64 0,.int .i64 0,.int .i64 0,.slice none 0 0,.slice none 0 0,.slice none 0 0,.slice none 0 0] 34)) (w.heap.size+1) #[.int .i64 0,.int .i64 0,.int .i64 0,.int .i64 0,.int .i64 0,.int .i64 0,.int .i64 0,.int .i64 0,.slice none 0 0,.slice none 0 0,.slice none 0 0,.slice none 0 0]:=Blk.new_at 34 (w.alloc _) _ _ (by simp)
 obtain⟨d0,d1,d2,d3,d4,d5,d6,d7⟩:=q0.cfg
 have HR:=hdn (And.intro rd (And.intro hc hfit))
 have HCN:=hdn (And.intro cl (And.intro cu (And.intro cd (And.intro cn (And.intro co (And.intro c0 FIT))))))
 clear rd hc hfit cl cu cd cn co c0 FIT
 go_enter Tryz.func33,Tryz.ntmps33
 go_wp2_with (first
  | (go_at_call 46;refine (k10 _).mono ?_;rintro e W1 ⟨rfl,h1⟩;replace q0:=q0.kept h1;replace qr:=qr.kept h1;replace hb:=bTn hb h1;clear h1 k10 d0 d1 d2 d3 d4 d5 d6 d7;obtain⟨d0,d1,d2,d3,d4,d5,d6,d7⟩:=q0.cfg)
  | (go_at_call 37;refine (k12 _).mono ?_;rintro e W2 ⟨rfl,h2⟩;replace q0:=q0.kept h2;replace qr:=qr.kept h2;replace hb:=bTn hb h2;obtain⟨A,eA⟩:∃ A,W2.alloc (.cells #[.slice (some xa) nW cW] 114)=A:=⟨_,rfl⟩;have bA:Below W2.heap.size W2 A:=eA ▸ bNw (Below.refl _ _) _;have zA:A.heap.size=W2.heap.size+1:=(by rw[←eA];simp);have qx:Blk 114 A W2.heap.size #[.slice (some xa) nW cW]:=eA ▸ Blk.new 114 W2 _;clear h2 k12 d0 d1 d2 d3 d4 d5 d6 d7;obtain⟨d0,d1,d2,d3,d4,d5,d6,d7⟩:=q0.cfg))
 have q0A:=q0.kept bA
 have qrA:=qr.kept bA
 have hs2:w.heap.size≤W2.heap.size:=hb.size
 have hrl:=qr.lt
 have hbA:=bTn hb bA
 clear d0 d1 d2 d3 d4 d5 d6 d7 q0 qr bA
 refine first_region (D:Int) h (ln:Int) v u x t n W2.heap.size w.heap.size xa.block nW ws cnt (by kernel_rfl) rfl ⟨_,rfl,rfl,rfl,rfl,by kernel_rfl⟩ ⟨_,rfl,rfl,rfl,rfl,by kernel_rfl⟩ ⟨_,rfl,rfl,rfl,rfl,by kernel_rfl⟩ ⟨_,rfl,rfl,rfl,rfl,by kernel_rfl⟩ ⟨_,rfl,rfl,rfl,rfl,by kernel_rfl⟩ ⟨_,rfl,rfl,rfl,rfl,by kernel_rfl⟩ ⟨_,rfl,rfl,rfl,rfl,by kernel_rfl⟩ ⟨_,rfl,rfl,rfl,rfl,by kernel_rfl⟩ ⟨_,rfl,rfl,rfl,rfl,by kernel_rfl⟩ ⟨_,rfl,rfl,rfl,rfl,by kernel_rfl⟩ (fun w=>by rw[HCN.out.2.2.2.2.2.1];go_simp;exact wrap_fits (by omega) (by omega)) q0A rfl rfl rfl ⟨xa,cW,by simpa using qx,rfl,by simpa using HR.out.1.below hbA,by have:=HR.out.2.1;omega⟩ (by have:=HCN.out.2.2.2.2.2.2 0 (by omega);simpa [offs] using this) hn (by omega) (by omega) (by omega) (Nat.le_of_ble_eq_true rfl) ?_
 intro a W3 mb sE hs hd hkp v8 hmb qm tE hcut on3
 have ep:=fPu [27,28,29,30,31,32,33,34,8] hs hd (fun s h'=>hkp s (firD_out h'))
 simp only[List.foldl] at ep
 rw[v8] at ep
 clear hs hd hkp v8 eA qx
 generalize a.tmps.getD 27 undef=g27,a.tmps.getD 28 undef=g28,a.tmps.getD 29 undef=g29,a.tmps.getD 30 undef=g30,a.tmps.getD 31 undef=g31,a.tmps.getD 32 undef=g32,a.tmps.getD 33 undef=g33,a.tmps.getD 34 undef=g34 at ep
 simp only[Act.put,List.setIfInBounds_toArray,List.set_cons_succ,List.set_cons_zero] at ep
 subst ep
 have INIT:Hid (ShI A W2.heap.size xa.block mb nW ws cnt 1 (fun sE L=>#[.int .i64 (D:Int),.int .i64 h,.int .i64 (ln:Int),.int .i64 v,.int .i64 u,.int .i64 x,.int .i64 t,.int .i64 n,.slice sE.a sE.n sE.c,.slice L.a L.n L.c,.slice none 0 0,.slice none 0 0]) sE (ofSeq ln 1 (seg cnt ws)) 0 W3):=⟨on3,(by rw[Nat.zero_mul];exact hcut),tE,⟨none,0,0⟩,(fun _ _=>SL.nought),(fun _ _=>SL.nought),(fun _ _=>SL.nought),qm,TL.nil _ _ _ _ _ _⟩
 have HA:=hdn (And.intro hbA (And.intro q0A (And.intro qrA (And.intro hmb (And.intro zA (And.intro hs2 hrl))))))
 have K55:∀ (k:Nat) (z:Int) (W:World),k<1+ln*pl 1+2→(cnt k:Int)=z→CutAt W W2.heap.size xa.block nW ws (offs cnt k)→Calls Tryz.prog 61 #[.pointer (some ⟨W2.heap.size,0,none⟩),.int .i64 z] W fun e W'=>∃ s:SL,e=.returned (.slice s.a s.n s.c)∧TS W.heap.size W' s (seg cnt ws k)∧CutAt W' W2.heap.size xa.block nW ws (offs cnt (k+1))∧Only W2.heap.size W W':=fun k z W hk hz hcu=>by
  rw[←hz]
  exact next_seg hcu (HCN.out.2.2.2.2.2.2 k hk) hn (by omega)
 clear hbA q0A qrA hmb zA on3 hcut tE qm hb
 go_wp2
 go_loopw [9,10,11] (fun i _ _ wr=>∃ k:Nat,k≤ln∧i=.int .i64 k∧ShI A W2.heap.size xa.block mb nW ws cnt 1 (fun sE L=>#[.int .i64 (D:Int),.int .i64 h,.int .i64 (ln:Int),.int .i64 v,.int .i64 u,.int .i64 x,.int .i64 t,.int .i64 n,.slice sE.a sE.n sE.c,.slice L.a L.n L.c,.slice none 0 0,.slice none 0 0]) sE (ofSeq ln 1 (seg cnt ws)) k wr) (fun i _ _ _=>ln-(intOf i).toNat)
 case atStart=>exact⟨0,Nat.zero_le _,rfl,INIT.out⟩
 case round =>
  obtain⟨k,hk,rfl,SH⟩:=hrel
  clear INIT
  obtain⟨WR,eWR⟩:∃ WR,WR=wr:=⟨_,rfl⟩
  subst eWR
  obtain⟨hbA,q0A,qrA,hmb,zA,hs2',hrl'⟩:=HA.out
  have sAW:=SH.only.size
  have q0R:=q0A.only SH.only (by omega)
  obtain⟨d0,d1,d2,d3,d4,d5,d6,d7⟩:=q0R.cfg
  by_cases hlt:k<ln
  ·have hlt':(k:Int)<(ln:Int):=by omega
   have hpl:(k+1)*pl 1≤ln*pl 1:=Nat.mul_le_mul_right _ (by omega)
   rw[Nat.add_mul,Nat.one_mul] at hpl
   have hpl2:pl 1=7+2*1:=rfl
   have xlt1:W2.heap.size<WR.heap.size:=by omega
   have slt1:xa.block<WR.heap.size:=by omega
   have bA1:Below WR.heap.size WR (WR.alloc (.cells #[.slice none 0 0,.slice none 0 0,.slice none 0 0,.slice none 0 0,.slice none 0 0,.slice none 0 0,.slice none 0 0,.slice none 0 0,.slice none 0 0] 61)):=bNw (Below.refl _ _) _
   have zA1:(WR.alloc (.cells #[.slice none 0 0,.slice none 0 0,.slice none 0 0,.slice none 0 0,.slice none 0 0,.slice none 0 0,.slice none 0 0,.slice none 0 0,.slice none 0 0] 61)).heap.size=WR.heap.size+1:=by simp
   have hS0:LayS WR W2.heap.size xa.block WR.heap.size nW ws cnt (1+k*pl 1+0) #[.slice none 0 0,.slice none 0 0,.slice none 0 0,.slice none 0 0,.slice none 0 0,.slice none 0 0,.slice none 0 0,.slice none 0 0,.slice none 0 0] (WR.alloc (.cells #[.slice none 0 0,.slice none 0 0,.slice none 0 0,.slice none 0 0,.slice none 0 0,.slice none 0 0,.slice none 0 0,.slice none 0 0,.slice none 0 0] 61)):=⟨Only.of_below bA1,SH.cut.below bA1,Blk.new 61 WR _⟩
   have HSH:=hdn SH
   have HQR:=hdn (And.intro q0R (And.intro zA1 (And.intro hpl hpl2)))
   have CC:Hid ((cnt (1+k*pl 1+0):Int)=(D:Int)∧(cnt (1+k*pl 1+1):Int)=(DD:Int)∧(cnt (1+k*pl 1+2):Int)=(DD:Int)∧(cnt (1+k*pl 1+3):Int)=(DD:Int)∧(cnt (1+k*pl 1+4):Int)=(DD:Int)∧(cnt (1+k*pl 1+5):Int)=(D:Int)∧(cnt (1+k*pl 1+6):Int)=(XD:Int)) :=
    ⟨by rw[HCN.out.1 k 0 hlt (by omega)];rfl,by rw[HCN.out.1 k 1 hlt (by omega)];rfl,by rw[HCN.out.1 k 2 hlt (by omega)];rfl,by rw[HCN.out.1 k 3 hlt (by omega)];rfl,by rw[HCN.out.1 k 4 hlt (by omega)];rfl,by rw[HCN.out.1 k 5 hlt (by omega)];rfl,by rw[HCN.out.1 k 6 hlt (by omega)];rfl⟩
   clear SH q0R q0A qrA hbA bA1 zA1 hmb zA hs2' hrl' hpl hpl2
   go_wp2_with (first
    | (go_at_call 61;refine (K55 (1+k*pl 1+0) (D:Int) _ (by have:=HQR.out.2.2;omega) CC.out.1 hS0.cut).mono ?_;rintro e Wc0 ⟨s0,rfl,ts0,hc0,on0⟩;obtain⟨V0,eV0,z0,o0,hS1,kp0,kq0⟩:=hS0.step (Nat.le_refl _) xlt1 slt1 on0 hc0 0 rfl s0 (cs':=#[.slice s0.a s0.n s0.c,.slice none 0 0,.slice none 0 0,.slice none 0 0,.slice none 0 0,.slice none 0 0,.slice none 0 0,.slice none 0 0,.slice none 0 0]) rfl;have t0:TS WR.heap.size V0 s0 (seg cnt ws (1+k*pl 1+0)):=(ts0.step kq0).le (by have:=HQR.out.2.1;omega); clear hS0 ts0 hc0 on0 d0 d1 d2 d3 d4 d5 d6 d7)
    | (go_at_call 61;refine (K55 (1+k*pl 1+1) (DD:Int) _ (by have:=HQR.out.2.2;omega) CC.out.2.1 hS1.cut).mono ?_;rintro e Wc1 ⟨s1,rfl,ts1,hc1,on1⟩;obtain⟨V1,eV1,z1,o1,hS2,kp1,kq1⟩:=hS1.step (Nat.le_refl _) xlt1 slt1 on1 hc1 1 rfl s1 (cs':=#[.slice s0.a s0.n s0.c,.slice s1.a s1.n s1.c,.slice none 0 0,.slice none 0 0,.slice none 0 0,.slice none 0 0,.slice none 0 0,.slice none 0 0,.slice none 0 0]) rfl;have t1:TS WR.heap.size V1 s1 (seg cnt ws (1+k*pl 1+1)):=(ts1.step kq1).le hS1.only.size;replace t0:=t0.step kp1;clear hS1 ts1 hc1 on1 eV0 z0 o0 kp0 kq0)
    | (go_at_call 61;refine (K55 (1+k*pl 1+2) (DD:Int) _ (by have:=HQR.out.2.2;omega) CC.out.2.2.1 hS2.cut).mono ?_;rintro e Wc2 ⟨s2,rfl,ts2,hc2,on2⟩;obtain⟨V2,eV2,z2,o2,hS3,kp2,kq2⟩:=hS2.step (Nat.le_refl _) xlt1 slt1 on2 hc2 2 rfl s2 (cs':=#[.slice s0.a s0.n s0.c,.slice s1.a s1.n s1.c,.slice s2.a s2.n s2.c,.slice none 0 0,.slice none 0 0,.slice none 0 0,.slice none 0 0,.slice none 0 0,.slice none 0 0]) rfl;have t2:TS WR.heap.size V2 s2 (seg cnt ws (1+k*pl 1+2)):=(ts2.step kq2).le hS2.only.size;replace t0:=t0.step kp2;replace t1:=t1.step kp2;clear hS2 ts2 hc2 on2 eV1 z1 o1 kp1 kq1)
    | (go_at_call 61;refine (K55 (1+k*pl 1+3) (DD:Int) _ (by have:=HQR.out.2.2;omega) CC.out.2.2.2.1 hS3.cut).mono ?_;rintro e Wc3 ⟨s3,rfl,ts3,hc3,on3⟩;obtain⟨V3,eV3,z3,o3,hS4,kp3,kq3⟩:=hS3.step (Nat.le_refl _) xlt1 slt1 on3 hc3 3 rfl s3 (cs':=#[.slice s0.a s0.n s0.c,.slice s1.a s1.n s1.c,.slice s2.a s2.n s2.c,.slice s3.a s3.n s3.c,.slice none 0 0,.slice none 0 0,.slice none 0 0,.slice none 0 0,.slice none 0 0]) rfl;have t3:TS WR.heap.size V3 s3 (seg cnt ws (1+k*pl 1+3)):=(ts3.step kq3).le hS3.only.size;replace t0:=t0.step kp3;replace t1:=t1.step kp3;replace t2:=t2.step kp3;clear hS3 ts3 hc3 on3 eV2 z2 o2 kp2 kq2)
    | (go_at_call 61;refine (K55 (1+k*pl 1+4) (DD:Int) _ (by have:=HQR.out.2.2;omega) CC.out.2.2.2.2.1 hS4.cut).mono ?_;rintro e Wc4 ⟨s4,rfl,ts4,hc4,on4⟩;obtain⟨V4,eV4,z4,o4,hS5,kp4,kq4⟩:=hS4.step (Nat.le_refl _) xlt1 slt1 on4 hc4 4 rfl s4 (cs':=#[.slice s0.a s0.n s0.c,.slice s1.a s1.n s1.c,.slice s2.a s2.n s2.c,.slice s3.a s3.n s3.c,.slice s4.a s4.n s4.c,.slice none 0 0,.slice none 0 0,.slice none 0 0,.slice none 0 0]) rfl;have t4:TS WR.heap.size V4 s4 (seg cnt ws (1+k*pl 1+4)):=(ts4.step kq4).le hS4.only.size;replace t0:=t0.step kp4;replace t1:=t1.step kp4;replace t2:=t2.step kp4;replace t3:=t3.step kp4;clear hS4 ts4 hc4 on4 eV3 z3 o3 kp3 kq3)
    | (go_at_call 61;refine (K55 (1+k*pl 1+5) (D:Int) _ (by have:=HQR.out.2.2;omega) CC.out.2.2.2.2.2.1 hS5.cut).mono ?_;rintro e Wc5 ⟨s5,rfl,ts5,hc5,on5⟩;obtain⟨V5,eV5,z5,o5,hS6,kp5,kq5⟩:=hS5.step (Nat.le_refl _) xlt1 slt1 on5 hc5 5 rfl s5 (cs':=#[.slice s0.a s0.n s0.c,.slice s1.a s1.n s1.c,.slice s2.a s2.n s2.c,.slice s3.a s3.n s3.c,.slice s4.a s4.n s4.c,.slice s5.a s5.n s5.c,.slice none 0 0,.slice none 0 0,.slice none 0 0]) rfl;have t5:TS WR.heap.size V5 s5 (seg cnt ws (1+k*pl 1+5)):=(ts5.step kq5).le hS5.only.size;replace t0:=t0.step kp5;replace t1:=t1.step kp5;replace t2:=t2.step kp5;replace t3:=t3.step kp5;replace t4:=t4.step kp5;clear hS5 ts5 hc5 on5 eV4 z4 o4 kp4 kq4;obtain⟨d0,d1,d2,d3,d4,d5,d6,d7⟩:=(HQR.out.1.only hS6.only (by omega)).cfg)
    | (go_at_call 61;refine (K55 (1+k*pl 1+6) (XD:Int) _ (by have:=HQR.out.2.2;omega) CC.out.2.2.2.2.2.2 hS6.cut).mono ?_;rintro e Wc6 ⟨s6,rfl,ts6,hc6,on6⟩;obtain⟨V6,eV6,z6,o6,hS7,kp6,kq6⟩:=hS6.step (Nat.le_refl _) xlt1 slt1 on6 hc6 6 rfl s6 (cs':=#[.slice s0.a s0.n s0.c,.slice s1.a s1.n s1.c,.slice s2.a s2.n s2.c,.slice s3.a s3.n s3.c,.slice s4.a s4.n s4.c,.slice s5.a s5.n s5.c,.slice s6.a s6.n s6.c,.slice none 0 0,.slice none 0 0]) rfl;have t6:TS WR.heap.size V6 s6 (seg cnt ws (1+k*pl 1+6)):=(ts6.step kq6).le hS6.only.size;replace t0:=t0.step kp6;replace t1:=t1.step kp6;replace t2:=t2.step kp6;replace t3:=t3.step kp6;replace t4:=t4.step kp6;replace t5:=t5.step kp6;clear hS6 ts6 hc6 on6 eV5 z5 o5 kp5 kq5))
   clear z6 o6 eV6 kp6 kq6 d0 d1 d2 d3 d4 d5 d6 d7
   have NI0:Hid (NetI WR V6 W2.heap.size xa.block WR.heap.size nW ws cnt (1+k*pl 1+7) (fun uu dd=>#[.slice s0.a s0.n s0.c,.slice s1.a s1.n s1.c,.slice s2.a s2.n s2.c,.slice s3.a s3.n s3.c,.slice s4.a s4.n s4.c,.slice s5.a s5.n s5.c,.slice s6.a s6.n s6.c,.slice uu.a uu.n uu.c,.slice dd.a dd.n dd.c]) ((ofSeq ln 1 (seg cnt ws)).u k) ((ofSeq ln 1 (seg cnt ws)).d k) 0 V6):=⟨hS7.only,hS7.cut,⟨⟨none,0,0⟩,⟨none,0,0⟩,(fun _=>SL.nought),(fun _=>SL.nought),hS7.blk,TG.nil _ _ _ _,TG.nil _ _ _ _,(fun g hg=>by cases hg)⟩,Keeps.refl _ _,Nat.le_refl _⟩
   have HT:=hdn (And.intro t0 (And.intro t1 (And.intro t2 (And.intro t3 (And.intro t4 (And.intro t5 t6))))))
   clear t0 t1 t2 t3 t4 t5 t6 hS7
   go_loopw [11] (fun j wr=>∃ q:Nat,q≤1∧j=.int .i64 q∧NetI WR V6 W2.heap.size xa.block WR.heap.size nW ws cnt (1+k*pl 1+7) (fun uu dd=>#[.slice s0.a s0.n s0.c,.slice s1.a s1.n s1.c,.slice s2.a s2.n s2.c,.slice s3.a s3.n s3.c,.slice s4.a s4.n s4.c,.slice s5.a s5.n s5.c,.slice s6.a s6.n s6.c,.slice uu.a uu.n uu.c,.slice dd.a dd.n dd.c]) ((ofSeq ln 1 (seg cnt ws)).u k) ((ofSeq ln 1 (seg cnt ws)).d k) q wr) (fun j _=>1-(intOf j).toNat)
   case atStart=>exact⟨0,Nat.zero_le _,rfl,NI0.out⟩
   case round =>
    obtain⟨q,hq,rfl,NI⟩:=hrel
    clear NI0
    have q0q:=HQR.out.1.only NI.only (by omega)
    obtain⟨d0,d1,d2,d3,d4,d5,d6,d7⟩:=q0q.cfg
    by_cases hl2:q<1
    ·have hz3:(q:Int)<1:=by omega
     obtain⟨uu,dd,RU,RD,qlb,tU,tD,hap⟩:=NI.nets
     have HNI:=hdn NI
     have hsz:=NI.only.size
     clear NI q0q
     go_wp2
     refine net_regionU (D:Int) h (ln:Int) v u x t n 88 7 W2.heap.size w.heap.size xa.block WR.heap.size nW (1+k*pl 1+7+2*q) q WR.heap.size ws cnt _ uu.a uu.n uu.c RU ((ofSeq ln 1 (seg cnt ws)).u k) WR (by kernel_rfl) rfl ⟨_,rfl,rfl,rfl,rfl,by kernel_rfl⟩ ⟨_,rfl,rfl,rfl,rfl,by kernel_rfl⟩ ⟨_,rfl,rfl,rfl,rfl,by kernel_rfl⟩ ⟨_,rfl,rfl,rfl,rfl,by kernel_rfl⟩ ⟨_,rfl,rfl,rfl,rfl,by kernel_rfl⟩ ⟨_,rfl,rfl,rfl,rfl,by kernel_rfl⟩ ⟨_,rfl,rfl,rfl,rfl,by kernel_rfl⟩ ⟨_,rfl,rfl,rfl,rfl,by kernel_rfl⟩ ⟨_,rfl,rfl,rfl,rfl,by kernel_rfl⟩ ⟨_,rfl,rfl,rfl,rfl,by kernel_rfl⟩ ⟨_,rfl,rfl,rfl,rfl,by kernel_rfl⟩ ⟨_,rfl,rfl,rfl,rfl,by kernel_rfl⟩ (fun w=>by rw[HCN.out.2.1 k q hlt hl2];go_simp;exact wrap_fits (by omega) (by omega)) (by decide) (Nat.le_of_ble_eq_true rfl) (by decide) HQR.out.1 rfl rfl rfl rfl HNI.out.only HNI.out.cut (HCN.out.2.2.2.2.2.2 _ (by have:=HQR.out.2.2;omega)) hn (by omega) (by omega) xlt1 slt1 (Nat.le_refl _) (Nat.le_refl _) hsz qlb rfl tU rfl (by omega) ?_
     intro a X1 vU SU hs hd hkp onX cutX blkX tgX obX k46X kbX szX
     have ep:=fPu [88,89,90,91,92,93,94,95,96,97,98] hs hd (fun s h'=>hkp s (by simp at h';omega))
     simp only[List.foldl] at ep
     clear hs hd hkp d0 d1 d2 d3 d4 d5 d6 d7
     generalize a.tmps.getD 88 undef=g88,a.tmps.getD 89 undef=g89,a.tmps.getD 90 undef=g90,a.tmps.getD 91 undef=g91,a.tmps.getD 92 undef=g92,a.tmps.getD 93 undef=g93,a.tmps.getD 94 undef=g94,a.tmps.getD 95 undef=g95,a.tmps.getD 96 undef=g96,a.tmps.getD 97 undef=g97,a.tmps.getD 98 undef=g98 at ep
     simp only[Act.put,List.setIfInBounds_toArray,List.set_cons_succ,List.set_cons_zero] at ep
     subst ep
     obtain⟨ua,un,uc,euv⟩:=tgX.slice
     subst euv
     have tDX:=tD.but kbX (fun g hg hu=>hap g hu hg) k46X
     go_wp2
     refine net_regionD (D:Int) h (ln:Int) v u x t n 99 8 W2.heap.size w.heap.size xa.block WR.heap.size nW (1+k*pl 1+7+2*q+1) q WR.heap.size ws cnt _ dd.a dd.n dd.c RD ((ofSeq ln 1 (seg cnt ws)).d k) WR (by kernel_rfl) rfl ⟨_,rfl,rfl,rfl,rfl,by kernel_rfl⟩ ⟨_,rfl,rfl,rfl,rfl,by kernel_rfl⟩ ⟨_,rfl,rfl,rfl,rfl,by kernel_rfl⟩ ⟨_,rfl,rfl,rfl,rfl,by kernel_rfl⟩ ⟨_,rfl,rfl,rfl,rfl,by kernel_rfl⟩ ⟨_,rfl,rfl,rfl,rfl,by kernel_rfl⟩ ⟨_,rfl,rfl,rfl,rfl,by kernel_rfl⟩ ⟨_,rfl,rfl,rfl,rfl,by kernel_rfl⟩ ⟨_,rfl,rfl,rfl,rfl,by kernel_rfl⟩ ⟨_,rfl,rfl,rfl,rfl,by kernel_rfl⟩ ⟨_,rfl,rfl,rfl,rfl,by kernel_rfl⟩ ⟨_,rfl,rfl,rfl,rfl,by kernel_rfl⟩ (fun w=>by rw[HCN.out.2.2.1 k q hlt hl2];go_simp;exact wrap_fits (by omega) (by omega)) (by decide) (Nat.le_of_ble_eq_true rfl) (by decide) HQR.out.1 rfl rfl rfl rfl onX cutX (HCN.out.2.2.2.2.2.2 _ (by have:=HQR.out.2.2;omega)) hn (by omega) (by omega) xlt1 slt1 (Nat.le_refl _) (Nat.le_refl _) (Nat.le_trans hsz szX) blkX rfl tDX rfl (by omega) ?_
     intro a X2 vD SD hs hd hkp onY cutY blkY tgY obY k46Y kbY szY
     have ep:=fPu [99,100,101,102,103,104,105,106,107,108,109] hs hd (fun s h'=>hkp s (by simp at h';omega))
     simp only[List.foldl] at ep
     clear hs hd hkp
     generalize a.tmps.getD 99 undef=g99,a.tmps.getD 100 undef=g100,a.tmps.getD 101 undef=g101,a.tmps.getD 102 undef=g102,a.tmps.getD 103 undef=g103,a.tmps.getD 104 undef=g104,a.tmps.getD 105 undef=g105,a.tmps.getD 106 undef=g106,a.tmps.getD 107 undef=g107,a.tmps.getD 108 undef=g108,a.tmps.getD 109 undef=g109 at ep
     simp only[Act.put,List.setIfInBounds_toArray,List.set_cons_succ,List.set_cons_zero] at ep
     subst ep
     obtain⟨da,dn,dc,edv⟩:=tgY.slice
     subst edv
     have hap2:=apart_of hap tD tgX obX obY
     have tUY:=tgX.but kbY (fun g hg hd'=>apart_of hap tD tgX obX (.inl rfl) g hg hd') k46Y
     have NX:Hid (NetI WR V6 W2.heap.size xa.block WR.heap.size nW ws cnt (1+k*pl 1+7) (fun uu dd=>#[.slice s0.a s0.n s0.c,.slice s1.a s1.n s1.c,.slice s2.a s2.n s2.c,.slice s3.a s3.n s3.c,.slice s4.a s4.n s4.c,.slice s5.a s5.n s5.c,.slice s6.a s6.n s6.c,.slice uu.a uu.n uu.c,.slice dd.a dd.n dd.c]) ((ofSeq ln 1 (seg cnt ws)).u k) ((ofSeq ln 1 (seg cnt ws)).d k) (q+1) X2):=⟨onY,(by rw[show 1+k*pl 1+7+2*(q+1)=1+k*pl 1+7+2*q+1+1 by omega];exact cutY),⟨⟨ua,un,uc⟩,⟨da,dn,dc⟩,_,_,blkY,tUY,tgY,hap2⟩,(HNI.out.k46.trans k46X).trans k46Y,Nat.le_trans (Nat.le_trans HNI.out.size szX) szY⟩
     clear onY cutY blkY tgY obY k46Y kbY szY onX cutX blkX tgX obX k46X kbX szX tDX tU tD hap hap2 tUY HNI qlb
     go_wp2
     go_roundw
     case rel=>exact⟨q+1,by omega,by go_num,NX.out⟩
     case measure=>simp[intOf];omega
    ·have hz3:¬(q:Int)<1:=by omega
     have hz4:decide ((q:Int)<1)=false:=by simp;omega
     obtain rfl:1=q:=by omega
     obtain⟨uu,dd,RU,RD,qlb,tU,tD,hap⟩:=NI.nets
     obtain⟨Y,eY⟩:∃ Y,wr=Y:=⟨_,rfl⟩
     subst eY
     have kWR:∀ t,t≠114→Keeps t WR wr:=fun t ht=>HSH.out.cut.keeps NI.only ht
     obtain⟨t0,t1,t2,t3,t4,t5,t6⟩:=HT.out
     obtain⟨L,YL,UL,DL,qmb,tL⟩:=HSH.out.mod
     have qmy:=(kWR 34 (by decide)).blk qmb
     have tLy:=tL.step (kWR 61 (by decide)) (kWR 118 (by decide)) (kWR 31 (by decide))
     have tEy:=HSH.out.te.step (kWR 118 (by decide))
     obtain⟨A3,eA3⟩:∃ A3,wr.alloc (.cells #[.slice s0.a s0.n s0.c,.slice s1.a s1.n s1.c,.slice s2.a s2.n s2.c,.slice s3.a s3.n s3.c,.slice s4.a s4.n s4.c,.slice s5.a s5.n s5.c,.slice s6.a s6.n s6.c,.slice uu.a uu.n uu.c,.slice dd.a dd.n dd.c] 61)=A3:=⟨_,rfl⟩
     have bA3:Below wr.heap.size wr A3:=eA3 ▸ bNw (Below.refl _ _) _
     have gA3:Blk 61 A3 wr.heap.size ((List.range 9).map fun r=>(nine s0 s1 s2 s3 s4 s5 s6 uu dd r).v).toArray:=eA3 ▸ Blk.new 61 wr _
     have sW:=NI.only.size
     have K46:Keeps 118 V6 A3:=NI.k46.trans (Keeps.of_below bA3)
     have sAW2:=HSH.out.only.size
     have hY:TY A.heap.size A3 (nine s0 s1 s2 s3 s4 s5 s6 uu dd) RU RD ((ofSeq ln 1 (seg cnt ws)).f k) ((ofSeq ln 1 (seg cnt ws)).un k) ((ofSeq ln 1 (seg cnt ws)).dn k) ((ofSeq ln 1 (seg cnt ws)).u k) ((ofSeq ln 1 (seg cnt ws)).d k):=⟨fun j hj=>by
      rcases (show j=0∨j=1∨j=2∨j=3∨j=4∨j=5∨j=6 by omega) with rfl|rfl|rfl|rfl|rfl|rfl|rfl
      ·exact (t0.step K46).le sAW2
      ·exact (t1.step K46).le sAW2
      ·exact (t2.step K46).le sAW2
      ·exact (t3.step K46).le sAW2
      ·exact (t4.step K46).le sAW2
      ·exact (t5.step K46).le sAW2
      ·exact (t6.step K46).le sAW2,(tU.below (B':=0) bA3).le sAW2,(tD.below (B':=0) bA3).le sAW2⟩
     have c0:=qlb.cell 0 rfl
     have c1:=qlb.cell 1 rfl
     have c2:=qlb.cell 2 rfl
     have c3:=qlb.cell 3 rfl
     have c4:=qlb.cell 4 rfl
     have c5:=qlb.cell 5 rfl
     have c6:=qlb.cell 6 rfl
     have c7:=qlb.cell 7 rfl
     have c8:=qlb.cell 8 rfl
     have c9:=qmy.cell 9 rfl
     have tL3:=tLy.below bA3
     have tE3:=tEy.below bA3
     have qm3:=qmy.kept bA3
     have on3':Only W2.heap.size A A3:=(HSH.out.only.trans NI.only).trans (Only.of_below bA3)
     have cut3:=NI.cut.below bA3
     have hmb':=HA.out.2.2.2.1
     have zA':=HA.out.2.2.2.2.1
     clear NI q0q kWR t0 t1 t2 t3 t4 t5 t6 qmb tL qmy tLy tEy K46 tU tD hap qlb bA3
     go_wp2_with (first
      | (at_builtin;refine wpList_layer2 rfl (.tmp 111) (.tmp 113) rfl A.heap.size k _ YL UL DL (ofSeq ln 1 (seg cnt ws)) _ RU RD wr.heap.size 1 rfl rfl tL3 gA3 hY (by omega) on3'.size ?_;intro v' w6 hg6 hob6 k29 k46 tL6;obtain⟨Ls,eLs⟩:=tL6.slice;subst eLs;have qm6:=k29.blk qm3;obtain⟨V9,eV9,z9,o9,q9,on9,k9⟩:=fin12 qm6 9 Ls (cs':=#[.int .i64 (D:Int),.int .i64 h,.int .i64 (ln:Int),.int .i64 v,.int .i64 u,.int .i64 x,.int .i64 t,.int .i64 n,.slice sE.a sE.n sE.c,.slice Ls.a Ls.n Ls.c,.slice none 0 0,.slice none 0 0]) rfl rfl;have NS:Hid (ShI A W2.heap.size xa.block mb nW ws cnt 1 (fun sE L=>#[.int .i64 (D:Int),.int .i64 h,.int .i64 (ln:Int),.int .i64 v,.int .i64 u,.int .i64 x,.int .i64 t,.int .i64 n,.slice sE.a sE.n sE.c,.slice L.a L.n L.c,.slice none 0 0,.slice none 0 0]) sE (ofSeq ln 1 (seg cnt ws)) (k+1) V9):=⟨(on3'.grown hg6 hob6).new hmb' on9,(by rw[show 1+(k+1)*pl 1=1+k*pl 1+7+2*1 by rw[Nat.add_mul];show _=1+k*(7+2*1)+7+2*1;show 1+(k*(7+2*1)+1*(7+2*1))=_;omega];exact (cut3.grown hg6 (fun e=>by have:=hob6 _ e;omega) (fun e=>by have:=hob6 _ e;omega)).only on9 (by omega) (by omega)),(tE3.step k46).step (k9 118 (by decide)),⟨Ls,_,_,_,q9,tL6.step (k9 61 (by decide)) (k9 118 (by decide)) (k9 31 (by decide))⟩⟩;clear hg6 hob6 k29 k46 tL6 qm6 q9 on9 k9 tL3 gA3 hY tE3 qm3 on3' cut3)
      )
     go_roundw
     case rel=>exact⟨k+1,by omega,by go_num,NS.out⟩
     case measure=>simp[intOf];omega
  ·have hge:¬(k:Int)<(ln:Int):=by omega
   have hge':decide ((k:Int)<(ln:Int))=false:=by simp;omega
   have ekl:k=ln:=by omega
   obtain⟨L,YL,UL,DL,qmb,tL⟩:=SH.mod
   have tE:=SH.te
   have onA:=SH.only
   have hcN:CutAt WR W2.heap.size xa.block nW ws (offs cnt (1+ln*pl 1)):=by rw[←ekl];exact SH.cut
   have tL':TL A.heap.size WR (.slice L.a L.n L.c) ln YL UL DL (ofSeq ln 1 (seg cnt ws)):=by have h':=tL;rw[show k=ln from ekl] at h';exact h'
   have hqr:=HA.out.2.2.1
   have hbA':=HA.out.1
   have hmb':=HA.out.2.2.2.1
   have hsz7:=HA.out.2.2.2.2
   have EK:=hdn ekl
   clear SH tL ekl hbA q0A qrA hmb zA hs2' hrl'
   go_wp2_with (first
    | (go_at_call 61;refine (K55 (1+ln*pl 1) (D:Int) _ (by omega) (by rw[HCN.out.2.2.2.1]) hcN).mono ?_;rintro e X1 ⟨sN,rfl,tN,hcO,on1⟩;have kx:∀ t,t≠114→Keeps t WR X1:=fun t ht=>hcN.keeps on1 ht;obtain⟨X2,eX2,z10,o10,q2,on2,k2⟩:=fin12 ((kx 34 (by decide)).blk qmb) 10 sN (cs':=#[.int .i64 (D:Int),.int .i64 h,.int .i64 (ln:Int),.int .i64 v,.int .i64 u,.int .i64 x,.int .i64 t,.int .i64 n,.slice sE.a sE.n sE.c,.slice L.a L.n L.c,.slice sN.a sN.n sN.c,.slice none 0 0]) rfl rfl;have k12:∀ t,t≠114→t≠34→Keeps t WR X2:=fun t h1 h2=>(kx t h1).trans (k2 t h2);have onX2:Only W2.heap.size A X2:=(onA.trans on1).new hmb' on2;replace tE:=tE.step (k12 118 (by decide) (by decide));replace tN:=(tN.le onA.size).step (k2 118 (by decide));replace tL':=tL'.step (k12 61 (by decide) (by decide)) (k12 118 (by decide) (by decide)) (k12 31 (by decide) (by decide));replace hcO:=hcO.only on2 (by have:=hsz7.1;omega) (by have:=hsz7.1;omega);clear hcN on1 kx on2 k2 k12 qmb d0 d1 d2 d3 d4 d5 d6 d7;obtain⟨d0,d1,d2,d3,d4,d5,d6,d7⟩:=(HA.out.2.1.only onX2 (by omega)).cfg)
    | (go_at_call 61;refine (K55 (1+ln*pl 1+1) (VD:Int) _ (by omega) (by rw[HCN.out.2.2.2.2.1]) hcO).mono ?_;rintro e X3 ⟨sO,rfl,tO,hcX,on3⟩;have kx:∀ t,t≠114→Keeps t X2 X3:=fun t ht=>hcO.keeps on3 ht;obtain⟨X4,eX4,z11,o11,q4,on4,k4⟩:=fin12 ((kx 34 (by decide)).blk q2) 11 sO (cs':=#[.int .i64 (D:Int),.int .i64 h,.int .i64 (ln:Int),.int .i64 v,.int .i64 u,.int .i64 x,.int .i64 t,.int .i64 n,.slice sE.a sE.n sE.c,.slice L.a L.n L.c,.slice sN.a sN.n sN.c,.slice sO.a sO.n sO.c]) rfl rfl;have k34:∀ t,t≠114→t≠34→Keeps t X2 X4:=fun t h1 h2=>(kx t h1).trans (k4 t h2);have onX4:Only W2.heap.size A X4:=(onX2.trans on3).new hmb' on4;replace tE:=tE.step (k34 118 (by decide) (by decide));replace tN:=tN.step (k34 118 (by decide) (by decide));replace tO:=(tO.le onX2.size).step (k4 118 (by decide));replace tL':=tL'.step (k34 61 (by decide) (by decide)) (k34 118 (by decide) (by decide)) (k34 31 (by decide) (by decide));have qr4:=hqr.only onX4 (by have:=hsz7;omega);clear hcO on3 kx on4 k4 k34 q2 onX2 hcX d0 d1 d2 d3 d4 d5 d6 d7 z10 o10 eX2;obtain⟨a0,a1,a2,a3,a4,a5,a6,a7,a8,a9,a10,a11⟩:=q4.c12;obtain⟨r0,r1,r2,r3,r4,r5,r6,r7,r8,r9,r10,r11⟩:=qr4.c12;obtain⟨f0,f1,f2,f3,f4,f5,f6,f7,f8,f9,f10,f11⟩:=qr4.o12))
   obtain⟨W6,eW6,q6,only6,hz6⟩:=set12 qr4 (.int .i64 (D:Int)) (.int .i64 h) (.int .i64 (ln:Int)) (.int .i64 v) (.int .i64 u) (.int .i64 x) (.int .i64 t) (.int .i64 n) (.slice sE.a sE.n sE.c) (.slice L.a L.n L.c) (.slice sN.a sN.n sN.c) (.slice sO.a sO.n sO.c)
   rw[eW6]
   have K6:∀ t,t≠34→Keeps t X4 W6:=fun t ht=>Keeps.of_only only6 qr4 ht
   have hle:w.heap.size≤A.heap.size:=by omega
   have tL6:TL w.heap.size W6 (.slice L.a L.n L.c) (ofSeq ln 1 (seg cnt ws)).ln YL UL DL (ofSeq ln 1 (seg cnt ws)):=(tL'.step (K6 61 (by decide)) (K6 118 (by decide)) (K6 31 (by decide))).le hle
   obtain⟨L2,eL2,hN⟩:=tL6.new (E:=sE) (N:=sN) (O:=sO) ((tE.step (K6 118 (by decide))).le hle) ((tN.step (K6 118 (by decide))).le hle) ((tO.step (K6 118 (by decide))).le hle)
   obtain rfl:L=L2:=SL.v_inj eL2
   have bX4:Below w.heap.size w X4:=Only.below hbA' (by omega) hbA'.size onX4
   have bW6:Below w.heap.size w W6:=Only.below bX4 (by omega) bX4.size only6
   refine bodyPost_ret (v:=.tuple #[.agg #[.int .i64 (D:Int),.int .i64 h,.int .i64 (ln:Int),.int .i64 v,.int .i64 u,.int .i64 x,.int .i64 t,.int .i64 n,.slice sE.a sE.n sE.c,.slice L.a L.n L.c,.slice sN.a sN.n sN.c,.slice sO.a sO.n sO.c],.int .i64 0]) ?_ rfl ⟨sE,L,sN,sO,YL,UL,DL,rfl,⟨tL6,(tE.step (K6 118 (by decide))).le hle,(tN.step (K6 118 (by decide))).le hle,(tO.step (K6 118 (by decide))).le hle⟩,bW6⟩
   obtain⟨y0,y1,y2,y3,y4,y5,y6,y7,y8,y9,y10,y11⟩:=q6.c12
   simp[results,Tryz.results33,go_sem,y0,y1,y2,y3,y4,y5,y6,y7,y8,y9,y10,y11]
theorem zero_row {t:TypeId}{W:World}{b:Nat}(q:Blk t W b (Array.replicate 34 (.int .i8 0))):IsS W ⟨some ⟨b,0,none⟩,34,34⟩ zeroW :=
 ⟨⟨rfl,(by show (34:Nat)≤_;omega),fun i=>by
  unfold zeroW
  rw[List.getD_eq_getElem?_getD,List.getElem?_replicate]
  split<;>exact wf_nought _,fun _=>⟨_,rfl⟩,fun x hx i hi=>by
  obtain rfl:=Option.some.inj hx
  have hi':i<34:=hi
  rw[add_at]
  refine q.cell i ?_
  unfold zeroW
  rw[List.getD_eq_getElem?_getD,List.getElem?_replicate,if_pos hi',Array.getElem?_replicate,if_pos hi']
  rfl⟩,(fun h=>by cases h),Nat.le_refl _⟩
theorem zero_shape (w:World)(yb:Nat)(hz:IsS w ⟨some ⟨yb,0,none⟩,34,34⟩ zeroW) :
  Calls Tryz.prog 33 #[.agg #[.int .i64 2,.int .i64 1,.int .i64 1,.int .i64 2,.int .i64 1,.int .i64 0,.int .i64 0,.int .i64 0],.slice (some ⟨yb,0,none⟩) 34 34] w fun e w'=>∃ t:MT,e=.returned (.tuple #[.agg #[.int .i64 2,.int .i64 1,.int .i64 1,.int .i64 2,.int .i64 1,.int .i64 0,.int .i64 0,.int .i64 0,.slice t.E.a t.E.n t.E.c,.slice t.L.a t.L.n t.L.c,.slice t.N.a t.N.n t.N.c,.slice t.O.a t.O.n t.O.c],.int .i64 0])∧TMin w.heap.size w'.heap.size w' t zeroV∧Below w.heap.size w w':=by
 have k10:∀ w,Calls Tryz.prog 46 #[.agg #[.int .i64 2,.int .i64 1,.int .i64 1,.int .i64 2,.int .i64 1,.int .i64 0,.int .i64 0,.int .i64 0]] w fun e w'=>e=.returned (.bool true)∧Below w.heap.size w w':=fun w=>by
  have:=refConfig_call 2 1 1 2 1 0 0 0 w
  rw[sm_ok] at this
  exact this
 have k12:∀ w,Calls Tryz.prog 37 #[.agg #[.int .i64 2,.int .i64 1,.int .i64 1,.int .i64 2,.int .i64 1,.int .i64 0,.int .i64 0,.int .i64 0]] w fun e w'=>e=.returned (.int .i64 34)∧Below w.heap.size w w':=fun w=>by
  have:=refSize_call 2 1 1 2 1 0 0 0 w
  rw[show sizeB 2 1 1 2 1 0 0 0=34 by decide +kernel] at this
  exact this
 have hy:yb<w.heap.size:=by
  have:=World.block_lt_of_cell? _ _ (hz.reads.cell ⟨yb,0,none⟩ rfl 0 (by show 0<34;omega))
  rw[add_at] at this
  exact this
 have key:=refShape_typed 1 2 1 0 0 0 2 4 0 2 4 1 34 34 ⟨yb,0,none⟩ zeroW (by decide) (by decide) (by decide) (by decide) (by decide) (by decide) (by decide) (by decide) (by decide) (by decide) (by decide) (by decide) w k10 k12 hz.reads (Nat.le_refl _) (by decide) (by decide +kernel) hy
 refine key.mono fun e w' hh=>?_
 obtain⟨E,L,N,O,Y,U,D,he,ht,hb⟩:=hh
 exact⟨⟨E,L,N,O,Y,U,D⟩,he,TMin.of ht,hb⟩
abbrev caseR (k:Kg)(t:MT)(La:SL)(q:Aq):Rq:=⟨k.M,t.E,t.L,t.N,t.O,La,q⟩
theorem case_call (k:Kg)(t:MT)(La:SL)(Ya:Nat→Nat→SL)(q:Aq)(zs:List Int)(hk:q.k≠3)(w:World)(hm:ModAt w t.E t.L t.N t.O t.Y t.U t.D k.M.m)(ha:AdAt w La Ya k.M.a)(hq:AkAt w q zs)(T V:List Int)(E:Int)(eT:ansT (caseR k t La q) zs []=T)(eV:ansV (caseR k t La q) zs=V)(eE:reqE (caseR k t La q) zs=E) :
  Calls Tryz.prog 9 #[(caseR k t La q).mw,(caseR k t La q).aw,q.w] w fun e w'=>AnsAt w.heap.size T V E e w'∧Below w.heap.size w w':=by
 subst eT eV eE
 exact answer_call (caseR k t La q) t.Y t.U t.D Ya zs [] w ⟨hm,ha,hq⟩ (fun _ h=>absurd h hk)
theorem newM_now {B:Nat}{w:World}{t:MT}{m:ModV}(h:NewM B w t.E t.L t.N t.O t.Y t.U t.D m):ModAt w t.E t.L t.N t.O t.Y t.U t.D m:=h w fun _ _ hp _=>hp
theorem newA_now {B:Nat}{w:World}{L:SL}{Y:Nat→Nat→SL}{m:AdV}(h:NewA B w L Y m):AdAt w L Y m:=h w fun _ _ hp _=>hp
theorem ans_no {k:Kg}{t:MT}{La:SL}{q:Aq}{zs:List Int}(h:reqE (caseR k t La q) zs≠0∨q.k=4):ansT (caseR k t La q) zs []=[]:=by
 unfold ansT
 rcases h with h|h
 ·rw[if_neg h]
 ·rw[if_pos (show (caseR k t La q).q.k=4 from h),ite_self]
theorem allTries_call (r:Rq)(Y U D Ya:Nat→Nat→SL)(ps:List Int)(K:MdOk r.M)(w:World)(h:RqAt w r Y U D Ya ps)(hp:0<r.q.n)(pv:∀ j,j<ps.length→0≤ps.getD j 0∧ps.getD j 0<r.M.v)(hL:1≤r.q.L∧(r.q.n:Int)+r.q.L≤24)(hB:1≤r.q.B∧r.q.B≤4) :
  Calls Tryz.prog 43 #[r.w] w fun e w'=>(∃ a c A C,e=.returned (.tuple #[.slice a (triesZ' r ps).n c,.int .i64 0])∧BmAt w' a (triesZ' r ps).n A C (triesZ' r ps).L∧∀ i,i<(triesZ' r ps).n→((triesZ' r ps).L i).t.length≤C i∧∀ x:Addr,A i=some x→w.heap.size≤x.block)∧Below w.heap.size w w':=by
 have hb0:=bNw (Below.refl w.heap.size w) (.cells r.cs 55)
 have q0:=Blk.new 55 w r.cs
 have eT:triesN r ps r.q.L.toNat bs0=triesZ' r ps:=rfl
 obtain⟨TZ,eTZ⟩:∃ TZ,triesZ' r ps=TZ:=⟨_,rfl⟩
 rw[eTZ] at eT ⊢
 clear eTZ
 obtain⟨W0,eW⟩:∃ W0,w.alloc (.cells r.cs 55)=W0:=⟨_,rfl⟩
 rw[eW] at hb0 q0
 have EW:=hdn eW
 clear eW
 have h1:=h.below hb0
 have hn:=h.q.t.len
 clear h
 have bl:w.heap.size<W0.heap.size:=q0.lt
 go_enter Tryz.func43,Tryz.ntmps43
 go_upto_region 1 with fail
 rw[EW.out]
 clear EW
 have bs:Hid (BmAt (W0.alloc (.cells #[.slice none 0 0,.int .i64 0,.bool false] 135)) (some ⟨W0.heap.size,0,none⟩) 1 (fun _=>none) (fun _=>0) (fun _=>b0)):=by
  have q:=Blk.new 135 W0 #[.slice none 0 0,.int .i64 0,.bool false]
  refine⟨by decide,fun _=>⟨_,rfl⟩,fun x hx i hi=>?_,fun i hi=>Reads.nil _ _,fun _ _ _=>rfl,fun _ _=>by decide⟩
  obtain rfl:=Option.some.inj hx
  obtain rfl:i=0:=by omega
  exact⟨q.cell 0 rfl,q.cell 1 rfl,q.cell 2 rfl⟩
 go_wp2
 have hb1:Below W0.heap.size W0 (W0.alloc (.cells #[.slice none 0 0,.int .i64 0,.bool false] 135)):=bNw (Below.refl _ _) _
 go_loopg [4] r.q.L.toNat (fun gk v wr=>∃ (k:Nat) (b:Bs) (a:Option Addr) (c:Nat) (A:Nat→Option Addr) (C:Nat→Nat),v=.slice a b.n c∧Hid (gk+k=r.q.L.toNat∧BsOk r k b∧BmAt wr a b.n A C b.L∧triesN r ps gk b=TZ∧∀ i,i<b.n→(b.L i).t.length≤C i∧∀ x:Addr,A i=some x→w.heap.size≤x.block)∧Below W0.heap.size W0 wr)
 case atStart=>exact⟨0,bs0,_,_,_,_,rfl,⟨rfl,bs0_ok hL.1,bs.out,eT,fun i _=>⟨Nat.le_refl _,fun x hx=>by cases hx⟩⟩,hb1⟩
 case round =>
  obtain⟨k,b,a,c,A,C,rfl,H,hbr⟩:=hrel
  obtain⟨hk,ok,bm,eN,hA⟩:=H.out
  have kc:=openAny_call a b.n c A C b.L wr bm
  cases ho:anyOpen b.L b.n with
  | false =>
   rw[ho] at kc
   have eb:b=TZ:=by
    rw[←eN]
    cases gk with
    | zero=>rfl
    | succ g=>unfold triesN;rw[if_neg (by rw[ho];decide)]
   have hbw:=hb0.trans (hbr.mono hb0.size)
   have HX:=hdn (And.intro eb (And.intro bm hA))
   clear H hk ok bm eN hA eb ho hbr
   go_wp2_with (go_at_call 80;refine kc.mono ?_;rintro e W1 ⟨rfl,h⟩;replace hbw:=bTn hbw h;have HB:=hdn h;clear h kc)
   go_ret2
   refine⟨?_,hbw⟩
   obtain⟨rfl,bm,hA⟩:=HX.out
   exact⟨a,c,A,C,rfl,bm.below HB.out,hA⟩
  | true =>
   rw[ho] at kc
   obtain⟨g,rfl⟩:∃ g,gk=g+1:=⟨gk-1,by
    have:gk≠0:=fun e=>by
     subst e
     have:=none_open ok (by omega)
     rw[ho] at this
     cases this
    omega⟩
   have hg:=grow_ok (ps:=ps) K hB ok
   have nx:=next_ok (ps:=ps) K hB ok
   have eN2:triesN r ps g (nextB r ps b)=TZ:=by
    rw[←eN]
    show _=if anyOpen b.L b.n=true then _ else _
    rw[if_pos ho]
   have hR:∀ i,i<b.n→(b.L i).f=false→runB r.M (ps++(b.L i).t) (r.q.n+(b.L i).t.length)=true:=fun i hi hf=>by
    have:=ok.opn i hi hf
    have:=run_joined (M:=r.M) (ps:=ps) (ts:=(b.L i).t) pv (ok.tok i hi) (by omega)
    rw[hn] at this
    exact this
   have qk:=q0.kept hbr
   have n4:=ok.n1
   have t24:∀ i,i<b.n→(b.L i).t.length≤1000000:=fun i hi=>by have:=ok.len i hi;omega
   have v1:=K.fit.v1
   have R16:∀ i,i<liveTo b.L b.n→(openR r ps b.L b.n i).length≤1000:=fun i hi=>by have:=openR_len (ps:=ps) K hi;omega
   have HX:=hdn (And.intro nx (And.intro eN2 (And.intro hk (And.intro hg (And.intro hR (And.intro t24 R16))))))
   have BM:=hdn bm
   clear H hk ok bm eN hA ho hg nx eN2 hR t24 R16
   go_upto_region 3 with (go_at_call 80;refine kc.mono ?_;rintro e W1 ⟨rfl,h⟩;replace hbr:=bTn hbr h;replace qk:=qk.kept h;replace BM:=hdn (BM.out.below h);clear h kc)
   have kr:=openRows_call r Y U D Ya ps K W1 (h1.below hbr) a b.n c A C b.L BM.out (by omega) hp HX.out.2.2.2.2.1
   refine wp_region_list ?_
   refine wpList_load_row rfl 55 (.tmp 1) rfl w.heap.size rfl 55 r.cs (0,0) _ qk Tryz.underlying55 rfl rfl ?_
   have xg:=HX.out.2.2.2.1
   go_wp2_with (first
    | (go_at_call 82;refine kr.mono ?_;rintro e W2 ⟨⟨a5,c5,A5,C5,rfl,g5,l5⟩,h⟩;replace hbr:=bTn hbr h;have sz:=Nat.le_trans hb0.size hbr.size;replace qk:=qk.kept h;have kg:=Grow_yes a b.n c A C b.L a5 _ c5 A5 C5 _ r.q.B r.q.L r.q.S W2 (BM.out.below h) g5 l5 xg HX.out.2.2.2.2.2.2 (by omega) HX.out.2.2.2.2.2.1;have x22:=qk.cell 22 rfl;have x17:=qk.cell 17 rfl;have x18:=qk.cell 18 rfl;clear kr h g5 l5)
    | (go_at_call 83;refine kg.mono ?_;rintro e W3 ⟨⟨ga,gb,gca,gcb,Ar,Cr,rfl,gl1,gl2,gn1,⟨gn2,gcap⟩,gbm,grd⟩,h⟩;replace hbr:=bTn hbr h;have GF:=hdn (And.intro gbm gcap);clear kg h gl1 gl2 gn1 gn2 gcap gbm grd x22 x17 x18))
   go_roundg g
   case measure=>omega
   case rel =>
    obtain⟨nx,eN2,hk,-⟩:=HX.out
    exact⟨k+1,nextB r ps b,ga,gca,Ar,Cr,rfl,⟨by omega,nx,GF.out.1,eN2,fun i hi=>⟨(GF.out.2 i hi).1,fun x hx=>Nat.le_trans sz ((GF.out.2 i hi).2 x hx)⟩⟩,hbr⟩
def beamZ (r:Rq)(ps:List Int):List Int:=((triesZ' r ps).L (bestOf (triesZ' r ps).L (triesZ' r ps).n r.q.E)).t
theorem tried_call (r:Rq)(Y U D Ya:Nat→Nat→SL)(ps:List Int)(K:MdOk r.M)(w:World)(h:RqAt w r Y U D Ya ps)(hp:0<r.q.n)(pv:∀ j,j<ps.length→0≤ps.getD j 0∧ps.getD j 0<r.M.v)(hL:1≤r.q.L∧(r.q.n:Int)+r.q.L≤24)(hB:1≤r.q.B∧r.q.B≤4) :
  Calls Tryz.prog 20 #[r.w] w fun e w'=>(∃ a c,e=.returned (.tuple #[.slice a (beamZ r ps).length c,.int .i64 0])∧Reads .i64 w' a (beamZ r ps).length (beamZ r ps)∧(beamZ r ps).length≤c∧∀ x:Addr,a=some x→w.heap.size≤x.block)∧Below w.heap.size w w':=by
 have hb0:=bNw (Below.refl w.heap.size w) (.cells r.cs 55)
 have q0:=Blk.new 55 w r.cs
 obtain⟨j,hj,ok⟩:=tries_len (ps:=ps) K hB r.q.L.toNat 0 bs0 (bs0_ok hL.1)
 replace ok:BsOk r j (triesZ' r ps):=ok
 have kt:=fun W (hW:Below w.heap.size w W)=>allTries_call r Y U D Ya ps K W (h.below hW) hp pv hL hB
 have eZ:((triesZ' r ps).L (bestOf (triesZ' r ps).L (triesZ' r ps).n r.q.E)).t=beamZ r ps:=rfl
 obtain⟨Z,ez⟩:∃ Z,beamZ r ps=Z:=⟨_,rfl⟩
 rw[ez] at eZ ⊢
 obtain⟨T,eT⟩:∃ T,triesZ' r ps=T:=⟨_,rfl⟩
 simp only[eT] at kt ok eZ
 have hM:=(bestOf_lt T.L r.q.E ok.n0).1
 have OK:Hid (BsOk r j T):=ok
 have EZ:=hdn eZ
 obtain⟨W0,eW⟩:∃ W0,w.alloc (.cells r.cs 55)=W0:=⟨_,rfl⟩
 rw[eW] at hb0 q0
 have EW:=hdn eW
 clear eW eT ez eZ ok h
 go_enter Tryz.func20,Tryz.ntmps20
 go_upto_region 1 with fail
 rw[EW.out]
 clear EW
 refine wp_region_list ?_
 refine wpList_load_row rfl 55 (.tmp 1) rfl w.heap.size rfl 55 r.cs (0,0) _ q0 Tryz.underlying55 rfl rfl ?_
 go_upto_region 4 with (go_at_call 43;refine (kt _ hb0).mono ?_;rintro e W1 ⟨⟨a,c,A,C,rfl,bm,hA⟩,h⟩;have sz:=hb0.size;replace q0:=q0.kept h;replace hb0:=bTn hb0 h;have BM:=hdn (And.intro bm hA);clear h bm hA kt)
 have kp:=pick_call r a T.n c A C T.L W1 BM.out.1 OK.out.n0 (fun i hi=>by have:=OK.out.len i hi;omega)
 have ez:=EZ.out
 obtain⟨M,eM⟩:∃ M,bestOf T.L T.n r.q.E=M:=⟨_,rfl⟩
 rw[eM] at kp hM ez
 have rM:=BM.out.1.row M hM
 have aM:=BM.out.2 M hM
 rw[ez] at kp rM aM
 clear BM EZ eM ez OK
 refine wp_region_list ?_
 refine wpList_load_row rfl 55 (.tmp 1) rfl w.heap.size rfl 55 r.cs (0,0) _ q0 Tryz.underlying55 rfl rfl ?_
 have AM:=hdn aM
 clear aM q0
 go_wp2_with (go_at_call 44;refine kp.mono ?_;rintro e W2 ⟨rfl,h⟩;replace hb0:=bTn hb0 h;replace rM:=rM.below h;clear h kp)
 go_ret2
 exact⟨⟨_,_,rfl,rM,AM.out.1,fun x hx=>Nat.le_trans sz (AM.out.2 x hx)⟩,hb0⟩
end Go.Proofs.YtbkjhfmehemgpaaGreat

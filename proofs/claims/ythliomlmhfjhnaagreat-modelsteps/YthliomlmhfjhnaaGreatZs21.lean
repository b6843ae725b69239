/- Texts put together. -/
import Derived.Test.YthliomlmhfjhnaaGreatZs8
import Derived.Test.YthliomlmhfjhnaaGreatZs7
namespace Go.Proofs.YthliomlmhfjhnaaGreat
set_option maxRecDepth 20000
set_option maxHeartbeats 16000000
open Go.ChangeShapes Go.WideShapes Go.ChangeAt Go.RowKit
set_option linter.unusedVariables false
set_option linter.unusedSimpArgs false
abbrev nilS:Value:=.slice none 0 0
theorem info65:(Tryz.prog.info? 65).map (fun i=>(i.zero,i.size,i.bytes))=some (some (.agg #[nilS,nilS,nilS,nilS,nilS,nilS,nilS,nilS,nilS]),9,216):=by kernel_rfl
theorem info24:(Tryz.prog.info? 24).map (fun i=>(i.zero,i.size,i.bytes))=some (some nilS,1,24):=by kernel_rfl
theorem networks_call (d h l v u x t n:Int)(w:World):Calls Tryz.prog 112 #[.agg #[.int .i64 d,.int .i64 h,.int .i64 l,.int .i64 v,.int .i64 u,.int .i64 x,.int .i64 t,.int .i64 n]] w fun e w'=>e=.returned (.int .i64 (max x 1))∧∃ o,w'=w.alloc o:=by
 rcases Int.lt_trichotomy x 1 with h0|rfl|h0
 ·rw[show max x 1=1 by omega]
  go_enter Tryz.func112,Tryz.ntmps112
  go_wp2
  go_ret
  exact⟨rfl,_,rfl⟩
 ·go_enter Tryz.func112,Tryz.ntmps112
  go_wp2
  go_ret
  exact⟨rfl,_,rfl⟩
 ·rw[show max x 1=x by omega]
  go_enter Tryz.func112,Tryz.ntmps112
  go_wp2
  go_ret
  exact⟨rfl,_,rfl⟩
theorem Blk.new_at (t:TypeId)(w:World)(cs:Array Value)(g:Nat)(hg:g=w.heap.size):Blk t (w.alloc (.cells cs t)) g cs:=by
 subst hg
 exact Blk.new t w cs
theorem Blk.other {t:TypeId}{w:World}{b:Nat}{cs:Array Value}(h:Blk t w b cs){a:Addr}(v:Value)(ha:b≠a.block):Blk t (w.setCell a v) b cs:=(Below.heap_setCell _ _ _ _ ha).trans h
theorem set12 {t:TypeId}{W:World}{b:Nat}{x0 x1 x2 x3 x4 x5 x6 x7 x8 x9 x10 x11:Value}(h:Blk t W b #[x0,x1,x2,x3,x4,x5,x6,x7,x8,x9,x10,x11])(v0 v1 v2 v3 v4 v5 v6 v7 v8 v9 v10 v11:Value) :
  ∃ W',((((((((((((W.setCell ⟨b,0,none⟩ v0).setCell ⟨b,1,none⟩ v1).setCell ⟨b,2,none⟩ v2).setCell ⟨b,3,none⟩ v3).setCell ⟨b,4,none⟩ v4).setCell ⟨b,5,none⟩ v5).setCell ⟨b,6,none⟩ v6).setCell ⟨b,7,none⟩ v7).setCell ⟨b,8,none⟩ v8).setCell ⟨b,9,none⟩ v9).setCell ⟨b,10,none⟩ v10).setCell ⟨b,11,none⟩ v11)=W'∧Blk t W' b #[v0,v1,v2,v3,v4,v5,v6,v7,v8,v9,v10,v11]∧Only b W W'∧W'.heap.size=W.heap.size:=by
 have z0:W.heap.size=W.heap.size:=rfl
 have s1:Blk t (W.setCell ⟨b,0,none⟩ v0) b #[v0,x1,x2,x3,x4,x5,x6,x7,x8,x9,x10,x11]:=h.set 0 v0
 have n1:=(Only.set b 0 W v0)
 have z1:(W.setCell ⟨b,0,none⟩ v0).heap.size=W.heap.size:=(by simp[World.setCell]:_=W.heap.size).trans z0
 obtain⟨W1,e1⟩:∃ W1,W.setCell ⟨b,0,none⟩ v0=W1:=⟨_,rfl⟩
 rw[e1] at s1 n1 z1 ⊢
 have s2:Blk t (W1.setCell ⟨b,1,none⟩ v1) b #[v0,v1,x2,x3,x4,x5,x6,x7,x8,x9,x10,x11]:=s1.set 1 v1
 have n2:=n1.trans (Only.set b 1 W1 v1)
 have z2:(W1.setCell ⟨b,1,none⟩ v1).heap.size=W.heap.size:=(by simp[World.setCell]:_=W1.heap.size).trans z1
 obtain⟨W2,e2⟩:∃ W2,W1.setCell ⟨b,1,none⟩ v1=W2:=⟨_,rfl⟩
 rw[e2] at s2 n2 z2 ⊢
 have s3:Blk t (W2.setCell ⟨b,2,none⟩ v2) b #[v0,v1,v2,x3,x4,x5,x6,x7,x8,x9,x10,x11]:=s2.set 2 v2
 have n3:=n2.trans (Only.set b 2 W2 v2)
 have z3:(W2.setCell ⟨b,2,none⟩ v2).heap.size=W.heap.size:=(by simp[World.setCell]:_=W2.heap.size).trans z2
 obtain⟨W3,e3⟩:∃ W3,W2.setCell ⟨b,2,none⟩ v2=W3:=⟨_,rfl⟩
 rw[e3] at s3 n3 z3 ⊢
 have s4:Blk t (W3.setCell ⟨b,3,none⟩ v3) b #[v0,v1,v2,v3,x4,x5,x6,x7,x8,x9,x10,x11]:=s3.set 3 v3
 have n4:=n3.trans (Only.set b 3 W3 v3)
 have z4:(W3.setCell ⟨b,3,none⟩ v3).heap.size=W.heap.size:=(by simp[World.setCell]:_=W3.heap.size).trans z3
 obtain⟨W4,e4⟩:∃ W4,W3.setCell ⟨b,3,none⟩ v3=W4:=⟨_,rfl⟩
 rw[e4] at s4 n4 z4 ⊢
 have s5:Blk t (W4.setCell ⟨b,4,none⟩ v4) b #[v0,v1,v2,v3,v4,x5,x6,x7,x8,x9,x10,x11]:=s4.set 4 v4
 have n5:=n4.trans (Only.set b 4 W4 v4)
 have z5:(W4.setCell ⟨b,4,none⟩ v4).heap.size=W.heap.size:=(by simp[World.setCell]:_=W4.heap.size).trans z4
 obtain⟨W5,e5⟩:∃ W5,W4.setCell ⟨b,4,none⟩ v4=W5:=⟨_,rfl⟩
 rw[e5] at s5 n5 z5 ⊢
 have s6:Blk t (W5.setCell ⟨b,5,none⟩ v5) b #[v0,v1,v2,v3,v4,v5,x6,x7,x8,x9,x10,x11]:=s5.set 5 v5
 have n6:=n5.trans (Only.set b 5 W5 v5)
 have z6:(W5.setCell ⟨b,5,none⟩ v5).heap.size=W.heap.size:=(by simp[World.setCell]:_=W5.heap.size).trans z5
 obtain⟨W6,e6⟩:∃ W6,W5.setCell ⟨b,5,none⟩ v5=W6:=⟨_,rfl⟩
 rw[e6] at s6 n6 z6 ⊢
 have s7:Blk t (W6.setCell ⟨b,6,none⟩ v6) b #[v0,v1,v2,v3,v4,v5,v6,x7,x8,x9,x10,x11]:=s6.set 6 v6
 have n7:=n6.trans (Only.set b 6 W6 v6)
 have z7:(W6.setCell ⟨b,6,none⟩ v6).heap.size=W.heap.size:=(by simp[World.setCell]:_=W6.heap.size).trans z6
 obtain⟨W7,e7⟩:∃ W7,W6.setCell ⟨b,6,none⟩ v6=W7:=⟨_,rfl⟩
 rw[e7] at s7 n7 z7 ⊢
 have s8:Blk t (W7.setCell ⟨b,7,none⟩ v7) b #[v0,v1,v2,v3,v4,v5,v6,v7,x8,x9,x10,x11]:=s7.set 7 v7
 have n8:=n7.trans (Only.set b 7 W7 v7)
 have z8:(W7.setCell ⟨b,7,none⟩ v7).heap.size=W.heap.size:=(by simp[World.setCell]:_=W7.heap.size).trans z7
 obtain⟨W8,e8⟩:∃ W8,W7.setCell ⟨b,7,none⟩ v7=W8:=⟨_,rfl⟩
 rw[e8] at s8 n8 z8 ⊢
 have s9:Blk t (W8.setCell ⟨b,8,none⟩ v8) b #[v0,v1,v2,v3,v4,v5,v6,v7,v8,x9,x10,x11]:=s8.set 8 v8
 have n9:=n8.trans (Only.set b 8 W8 v8)
 have z9:(W8.setCell ⟨b,8,none⟩ v8).heap.size=W.heap.size:=(by simp[World.setCell]:_=W8.heap.size).trans z8
 obtain⟨W9,e9⟩:∃ W9,W8.setCell ⟨b,8,none⟩ v8=W9:=⟨_,rfl⟩
 rw[e9] at s9 n9 z9 ⊢
 have s10:Blk t (W9.setCell ⟨b,9,none⟩ v9) b #[v0,v1,v2,v3,v4,v5,v6,v7,v8,v9,x10,x11]:=s9.set 9 v9
 have n10:=n9.trans (Only.set b 9 W9 v9)
 have z10:(W9.setCell ⟨b,9,none⟩ v9).heap.size=W.heap.size:=(by simp[World.setCell]:_=W9.heap.size).trans z9
 obtain⟨W10,e10⟩:∃ W10,W9.setCell ⟨b,9,none⟩ v9=W10:=⟨_,rfl⟩
 rw[e10] at s10 n10 z10 ⊢
 have s11:Blk t (W10.setCell ⟨b,10,none⟩ v10) b #[v0,v1,v2,v3,v4,v5,v6,v7,v8,v9,v10,x11]:=s10.set 10 v10
 have n11:=n10.trans (Only.set b 10 W10 v10)
 have z11:(W10.setCell ⟨b,10,none⟩ v10).heap.size=W.heap.size:=(by simp[World.setCell]:_=W10.heap.size).trans z10
 obtain⟨W11,e11⟩:∃ W11,W10.setCell ⟨b,10,none⟩ v10=W11:=⟨_,rfl⟩
 rw[e11] at s11 n11 z11 ⊢
 have s12:Blk t (W11.setCell ⟨b,11,none⟩ v11) b #[v0,v1,v2,v3,v4,v5,v6,v7,v8,v9,v10,v11]:=s11.set 11 v11
 have n12:=n11.trans (Only.set b 11 W11 v11)
 have z12:(W11.setCell ⟨b,11,none⟩ v11).heap.size=W.heap.size:=(by simp[World.setCell]:_=W11.heap.size).trans z11
 obtain⟨W12,e12⟩:∃ W12,W11.setCell ⟨b,11,none⟩ v11=W12:=⟨_,rfl⟩
 rw[e12] at s12 n12 z12 ⊢
 exact⟨_,rfl,s12,n12,z12⟩
structure GridB (w:World) (a:Option Addr) (n:Nat) (A:Nat→Option Addr) (C:Nat→Nat) (R:Nat→List Int):Prop where
 max:n≤9223372036854775807
 some_:0<n→∃ x,a=some x
 cell:∀ x,a=some x→∀ r,r<n→w.cell? (x.add r)=some (.slice (A r) (R r).length (C r))
 row:∀ r,r<n→Reads .i8 w (A r) (R r).length (R r)
theorem GridB.below {w w':World}{a:Option Addr}{n:Nat}{A:Nat→Option Addr}{C:Nat→Nat}{R:Nat→List Int}(h:GridB w a n A C R)(hb:Below w.heap.size w w'):GridB w' a n A C R :=
 ⟨h.max,h.some_,fun x hx r hr=>(hb.cell (World.block_lt_of_cell? w _ (h.cell x hx r hr))).trans (h.cell x hx r hr),fun r hr=>(h.row r hr).below hb⟩
structure Nets (w:World) (a:Option Addr) (n:Nat) (A:Nat→Option Addr) (C:Nat→Nat) (R:Nat→List Int):Prop where
 grid:GridB w a n A C R
 cap:∀ r,r<n→(R r).length≤C r
 nil_:∀ r,r<n→A r=none→C r=0
 bnd:∀ r,r<n→(R r).length*8≤140737488355328
theorem Nets.below {w w':World}{a:Option Addr}{n:Nat}{A:Nat→Option Addr}{C:Nat→Nat}{R:Nat→List Int}(h:Nets w a n A C R)(hb:Below w.heap.size w w'):Nets w' a n A C R :=
 ⟨h.grid.below hb,h.cap,h.nil_,h.bnd⟩
def cutCells (A:Nat→Option Addr)(C:Nat→Nat)(f d k:Nat):List Value:=(List.range k).map fun r=>.slice (cutA A f r) d (C r-f)
theorem cutCells_succ (A:Nat→Option Addr)(C:Nat→Nat)(f d k:Nat):cutCells A C f d (k+1)=cutCells A C f d k++[.slice (cutA A f k) d (C k-f)]:=by
 simp[cutCells,List.range_succ]
theorem cut_own {w:World}{a:Option Addr}{n B:Nat}{A:Nat→Option Addr}{C:Nat→Nat}{R:Nat→List Int}(h:Grid w a n A C R){f d:Nat}(hd:0<d)(hr:∀ r,r<n→f+d≤(R r).length){v:Value}(ho:w.ownsRow B 34 1 v n (cutCells A C f d n)) :
  ∃ b j,v=.slice b n j∧Grid w b n (cutA A f) (fun r=>C r-f) (cutR R f d):=by
 rcases ho.2 with⟨rfl,rfl⟩|⟨g,cap,cur,rfl,_,hg,hn,hm',hs,ht⟩
 ·exact⟨none,0,rfl,cut_grid h hd hr (fun h=>by omega) (fun x hx=>by cases hx)⟩
 ·refine⟨_,_,rfl,cut_grid h hd hr (fun _=>⟨_,rfl⟩) (fun x hx r hr'=>?_)⟩
  obtain rfl:=Option.some.inj hx
  exact ho.cells (g:=g) rfl r _ (by simp[cutCells,hr'])
theorem refCut_call (a:Option Addr)(n c:Nat)(A:Nat→Option Addr)(C:Nat→Nat)(R:Nat→List Int)(f d:Nat)(w:World)(h:Grid w a n A C R)(hC:∀ r,r<n→(R r).length≤C r)(hd:0<d)(hr:∀ r,r<n→f+d≤(R r).length)(hb:n*24≤140737488351232) :
  Calls Tryz.prog 109 #[.slice a n c,.int .i64 f,.int .i64 d] w fun e w'=>(∃ b k,e=.returned (.slice b n k)∧Grid w' b n (cutA A f) (fun r=>C r-f) (cutR R f d))∧Below w.heap.size w w':=by
 obtain⟨i0,hi,hz0,hz1,hz2⟩:=info_parts info34
 have hm:=h.max
 go_enter Tryz.func109,Tryz.ntmps109
 go_wp2
 go_loopw [7,8] (fun v i wr=>∃ k:Nat,k≤n∧i=.int .i64 k∧Below w.heap.size w wr∧wr.ownsRow w.heap.size 34 1 v k (cutCells A C f d k)) (fun _ i _=>n-(intOf i).toNat)
 case atStart=>exact⟨0,Nat.zero_le _,rfl,Below.refl _ _,World.ownsRow_nil _ _ _ _⟩
 case round =>
  obtain⟨k,hk,rfl,hbr,ho⟩:=hrel
  by_cases hlt:k<n
  ·obtain⟨x,rfl⟩:=h.some_ (by omega)
   have rk:=h.row k hlt
   have cx:=(h.below hbr).cell x rfl k hlt
   have h1:=hr k hlt
   have h2:=hC k hlt
   have h3:=rk.max
   obtain⟨y,ey⟩:=rk.some_ (by omega)
   have eA:cutA A f k=some (y.add f):=by unfold cutA;rw[ey];rfl
   have es:=cutCells_succ A C f d k
   rw[eA] at es
   have Es:Hid _:=es
   rw[ey] at cx
   obtain⟨L,eL⟩:∃ L,(R k).length=L:=⟨_,rfl⟩
   rw[eL] at cx h1 h2 h3
   obtain⟨G,eG⟩:∃ G,C k=G:=⟨_,rfl⟩
   rw[eG] at cx h2 Es
   obtain⟨Q,eQ⟩:∃ Q,f+d=Q:=⟨_,rfl⟩
   have eQ':(f:Int)+(d:Int)=(Q:Int):=by omega
   have eQ2:Q-f=d:=by omega
   have hQ:Q≤G:=by omega
   have hP:f<Q:=by omega
   have hG:¬G=f:=by omega
   have hQ3:Q≤9223372036854775807:=by omega
   have hsz:=hbr.size
   clear eQ eG eL eA es ey rk h hr hC
   go_wp2_with (at_builtin;refine wpList_append_own _ rfl (.tmp 15) (.tmp 25) 31 rfl w.heap.size 34 i0 (.slice none 0 0) 1 24 Tryz.underlying31 hi hz0 hz1 hz2 rfl (by decide) _ _ _ rfl (ho.alloc _) ⟨_,0,none⟩ 1 1 [.slice (some (y.add f)) d (G-f)] rfl rfl (one_new _ _ _) (by simp[Value.oneCell']) (by unfold maxLen;omega) (by omega) (by simp;omega) ?_;intro v' w1 ho' hg _)
   go_roundw
   case rel =>
    refine⟨k+1,by omega,by go_num,?_,?_⟩
    ·exact (hbr.alloc hsz _).grown hg (by have:=(Below.refl w.heap.size wr).alloc hsz (.cells #[.slice (some (y.add f)) d (G-f)] 34);have:=this.size;omega) (fun g h=>(ho.lt g h).1)
    ·rw[Es.out];exact ho'
   case measure=>simp[intOf];omega
  ·have e:k=n:=by omega
   subst e
   have fin:=cut_own (h.below hbr) hd hr ho
   obtain⟨b,j,rfl,hG⟩:=fin
   clear ho
   go_wp2
   go_ret
   exact⟨⟨_,_,rfl,hG⟩,hbr⟩
theorem refAdd4_same (a0:Option Addr)(n c0:Nat)(xs:List Int)(a1:Option Addr)(c1:Nat)(ys:List Int)(w:World)(h0:Reads .i64 w a0 n xs)(h1:Reads .i64 w a1 n ys)(hb:n*8≤140737488355328) :
  Calls Tryz.prog 70 #[.slice a0 n c0,.slice a1 n c1] w fun e w'=>(∃ a c,e=.returned (.tuple #[.slice a n c,.int .i64 0])∧Reads .i64 w' a n ((List.range n).map (plusZ xs ys))∧n≤c∧∀ x,a=some x→w.heap.size≤x.block)∧Below w.heap.size w w':=by
 obtain⟨i0,hi,hz0,hz1,hz2⟩:=info_parts info2
 have hm:=h0.max
 go_enter Tryz.func70,Tryz.ntmps70
 go_wp2
 go_loopw [6,7] (fun v i wr=>∃ k:Nat,k≤n∧i=.int .i64 k∧Below w.heap.size w wr∧wr.ownsRow w.heap.size 2 1 v k (gath (plusZ xs ys) .i64 k)) (fun _ i _=>n-(intOf i).toNat)
 case atStart=>exact⟨0,Nat.zero_le _,rfl,Below.refl _ _,World.ownsRow_nil _ _ _ _⟩
 case round =>
  obtain⟨k,hk,rfl,hbr,ho⟩:=hrel
  by_cases hlt:k<n
  ·have hr:=h0.below hbr
   have hq:=h1.below hbr
   obtain⟨x,rfl⟩:=h0.some_ (by omega)
   obtain⟨y,rfl⟩:=h1.some_ (by omega)
   have cx:=hr.cell x rfl k hlt
   have cy:=hq.cell y rfl k hlt
   have hsz:=hbr.size
   obtain⟨X,eX⟩:∃ X,xs.getD k 0=X:=⟨_,rfl⟩
   obtain⟨Y,eY⟩:∃ Y,ys.getD k 0=Y:=⟨_,rfl⟩
   have eP:cZ (cZ X+cZ Y)=plusZ xs ys k:=by unfold plusZ;rw[eX,eY]
   have Ep:Hid (cZ (cZ X+cZ Y)=plusZ xs ys k):=eP
   rw[eX] at cx
   rw[eY] at cy
   have bx:=cZb X
   have by_:=cZb Y
   have ew:IntKind.i64.wrap (cZ X+cZ Y)=cZ X+cZ Y:=by rw[IntKind.wrap_i64];omega
   clear eX eY eP hr hq h0 h1
   go_wp2
   go_region_law (first
    | (with_reducible show if Region.wanted { dst:=_,op:=Op.call { callee:=Callee.value (Operand.func 73),args:=#[Operand.tmp 23],argTypes:=_ },type:=_,pos:=_,after:=_,guard:=_ } _=true then _ else _;refine step_call rfl 73 (.tmp 23) _ rfl veenter23 (.int .i64 X) _ (by simp[Act.eval,Act.put]) (rCc _ _) ?_)
    | (with_reducible show if Region.wanted { dst:=_,op:=Op.call { callee:=Callee.value (Operand.func 73),args:=#[Operand.tmp 28],argTypes:=_ },type:=_,pos:=_,after:=_,guard:=_ } _=true then _ else _;refine step_call rfl 73 (.tmp 28) _ rfl veenter23 (.int .i64 Y) _ (by simp[Act.eval,Act.put]) (rCc _ _) ?_)
    | (with_reducible show if Region.wanted { dst:=_,op:=Op.call { callee:=Callee.value (Operand.func 73),args:=#[Operand.tmp 30],argTypes:=_ },type:=_,pos:=_,after:=_,guard:=_ } _=true then _ else _;refine step_call rfl 73 (.tmp 30) _ rfl veenter23 (.int .i64 (cZ X+cZ Y)) _ (by simp[Act.eval,Act.put,ew]) (rCc _ _) ?_)
    | (with_reducible show if Region.wanted { dst:=_,op:=Op.call { callee:=Callee.builtin Builtin.append,args:=_,argTypes:=_ },type:=_,pos:=_,after:=_,guard:=_ } _=true then _ else _;refine step_append rfl (.tmp 19) (.tmp 32) 34 rfl w.heap.size 2 i0 (.int .i64 0) 1 8 Tryz.underlying34 hi hz0 hz1 hz2 rfl (by decide) _ _ _ (by simp[Act.eval,Act.put]) (ho.alloc _).drew ⟨wr.heap.size,0,none⟩ 1 1 [.int .i64 (cZ (cZ X+cZ Y))] (by simp[Act.eval,Act.put]) rfl (one_newD _ _ _) (oOc _ _) (by unfold maxLen;omega) (by omega) (size_newD _ _ _ hsz) ?_;intro v' w1 ho' hg))
   all_goals
    have R:=aSt hsz Ep.out hbr ho ho' (grown_drew hg)
    clear ho' hg ho hbr
    go_wp2
    go_roundw
    case rel=>exact⟨k+1,by omega,by go_num,R⟩
    case measure=>simp[intOf];omega
  ·have e:k=n:=by omega
   subst e
   have fin:=oRe (zs:=(List.range k).map (plusZ xs ys)) ho (by simp) (fun z hz=>by obtain⟨y,_,rfl⟩:=List.mem_map.1 hz;exact wCz _) (fun j hj=>by rw[gath_at _ _ _ _ hj];simp[hj])
   obtain⟨a,c,rfl,hr⟩:=fin
   have cp:Hid (_≤_):=own_cap ho
   have fr:Hid (∀ x,a=some x→w.heap.size≤x.block):=fun x hx=>(ho.lt x.block (by rw[hx];rfl)).1
   clear ho
   go_wp2
   go_ret2
   exact⟨⟨_,_,rfl,hr,cp.out,fr.out⟩,hbr⟩
end Go.Proofs.YthliomlmhfjhnaaGreat

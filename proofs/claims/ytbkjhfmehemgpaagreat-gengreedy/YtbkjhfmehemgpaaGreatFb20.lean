/- Texts put together. -/
import Derived.Test.YtbkjhfmehemgpaaGreatFb9
import Derived.Test.YtbkjhfmehemgpaaGreatFb2
import Derived.Test.YtbkjhfmehemgpaaGreatFb14
import Derived.Test.YtbkjhfmehemgpaaGreatFb15
namespace Go.Proofs.YtbkjhfmehemgpaaGreat
set_option maxRecDepth 20000
set_option maxHeartbeats 16000000
open Go.ChangeShapes Go.WideShapes Go.ChangeAt Go.RowKit
set_option linter.unusedVariables false
set_option linter.unusedSimpArgs false
section
theorem Blk.c12 {t0:TypeId}{w:World}{b:Nat}{x0 x1 x2 x3 x4 x5 x6 x7 x8 x9 x10 x11:Value}(k:Blk t0 w b #[x0,x1,x2,x3,x4,x5,x6,x7,x8,x9,x10,x11]):w.cell? ⟨b,0,none⟩=some x0∧w.cell? ⟨b,1,none⟩=some x1∧w.cell? ⟨b,2,none⟩=some x2∧w.cell? ⟨b,3,none⟩=some x3∧w.cell? ⟨b,4,none⟩=some x4∧w.cell? ⟨b,5,none⟩=some x5∧w.cell? ⟨b,6,none⟩=some x6∧w.cell? ⟨b,7,none⟩=some x7∧w.cell? ⟨b,8,none⟩=some x8∧w.cell? ⟨b,9,none⟩=some x9∧w.cell? ⟨b,10,none⟩=some x10∧w.cell? ⟨b,11,none⟩=some x11 :=
 ⟨k.cell 0 rfl,k.cell 1 rfl,k.cell 2 rfl,k.cell 3 rfl,k.cell 4 rfl,k.cell 5 rfl,k.cell 6 rfl,k.cell 7 rfl,k.cell 8 rfl,k.cell 9 rfl,k.cell 10 rfl,k.cell 11 rfl⟩
theorem Blk.o12 {t0:TypeId}{w:World}{b:Nat}{cs:Array Value}(k:Blk t0 w b cs):w.frozen? ⟨b,0,none⟩=false∧w.frozen? ⟨b,1,none⟩=false∧w.frozen? ⟨b,2,none⟩=false∧w.frozen? ⟨b,3,none⟩=false∧w.frozen? ⟨b,4,none⟩=false∧w.frozen? ⟨b,5,none⟩=false∧w.frozen? ⟨b,6,none⟩=false∧w.frozen? ⟨b,7,none⟩=false∧w.frozen? ⟨b,8,none⟩=false∧w.frozen? ⟨b,9,none⟩=false∧w.frozen? ⟨b,10,none⟩=false∧w.frozen? ⟨b,11,none⟩=false :=
 ⟨k.open_ 0,k.open_ 1,k.open_ 2,k.open_ 3,k.open_ 4,k.open_ 5,k.open_ 6,k.open_ 7,k.open_ 8,k.open_ 9,k.open_ 10,k.open_ 11⟩
structure SL where
 a:Option Addr
 n:Nat
 c:Nat
def SL.nought:SL:=⟨none,0,0⟩
def SL.v (s:SL):Value:=.slice s.a s.n s.c
structure IsS (w:World) (s:SL) (zs:List Int):Prop where
 reads:Reads .i8 w s.a s.n zs
 nil:s.a=none→s.c=0
 cap:s.n≤s.c
theorem IsS.below {w w':World}{s:SL}{zs:List Int}(h:IsS w s zs)(hb:Below w.heap.size w w'):IsS w' s zs:=⟨h.reads.below hb,h.nil,h.cap⟩
theorem IsS.none_ (w:World):IsS w ⟨none,0,0⟩ []:=⟨Reads.nil _ _,fun _=>rfl,Nat.le_refl _⟩
structure IsG (w:World) (s:SL) (k:Nat) (R:Nat→SL) (Z:Nat→List Int):Prop where
 len:s.n=k
 some_:0<k→∃ x,s.a=some x
 nil:s.a=none→s.c=0
 cap:s.n≤s.c
 cell:∀ x,s.a=some x→∀ j,j<k→w.cell? (x.add j)=some (R j).v
 row:∀ j,j<k→IsS w (R j) (Z j)
theorem IsG.below {w w':World}{s:SL}{k:Nat}{R:Nat→SL}{Z:Nat→List Int}(h:IsG w s k R Z)(hb:Below w.heap.size w w'):IsG w' s k R Z :=
 ⟨h.len,h.some_,h.nil,h.cap,fun x hx j hj=>(hb.cell (World.block_lt_of_cell? w _ (h.cell x hx j hj))).trans (h.cell x hx j hj),fun j hj=>(h.row j hj).below hb⟩
structure ModV where
 e:List Int
 nm:List Int
 o:List Int
 ln:Nat
 f:Nat→Nat→List Int
 un:Nat→Nat
 dn:Nat→Nat
 u:Nat→Nat→List Int
 d:Nat→Nat→List Int
structure IsY (w:World) (Y:Nat→SL) (U D:Nat→SL) (f:Nat→List Int) (un dn:Nat) (u d:Nat→List Int):Prop where
 f:∀ j,j<7→IsS w (Y j) (f j)
 u:IsG w (Y 7) un U u
 d:IsG w (Y 8) dn D d
theorem IsY.below {w w':World}{Y U D:Nat→SL}{f:Nat→List Int}{un dn:Nat}{u d:Nat→List Int}(h:IsY w Y U D f un dn u d)(hb:Below w.heap.size w w'):IsY w' Y U D f un dn u d :=
 ⟨fun j hj=>(h.f j hj).below hb,h.u.below hb,h.d.below hb⟩
structure ModAt (w:World) (E L N O:SL) (Y U D:Nat→Nat→SL) (m:ModV):Prop where
 e:IsS w E m.e
 nm:IsS w N m.nm
 o:IsS w O m.o
 len:L.n=m.ln
 some_:0<m.ln→∃ x,L.a=some x
 nil:L.a=none→L.c=0
 cap:L.n≤L.c
 cell:∀ x,L.a=some x→∀ i,i<m.ln→∀ j,j<9→w.cell? ((x.add (i*9)).add j)=some (Y i j).v
 lay:∀ i,i<m.ln→IsY w (Y i) (U i) (D i) (m.f i) (m.un i) (m.dn i) (m.u i) (m.d i)
theorem ModAt.below {w w':World}{E L N O:SL}{Y U D:Nat→Nat→SL}{m:ModV}(h:ModAt w E L N O Y U D m)(hb:Below w.heap.size w w'):ModAt w' E L N O Y U D m :=
 ⟨h.e.below hb,h.nm.below hb,h.o.below hb,h.len,h.some_,h.nil,h.cap,fun x hx i hi j hj=>(hb.cell (World.block_lt_of_cell? w _ (h.cell x hx i hi j hj))).trans (h.cell x hx i hi j hj),fun i hi=>(h.lay i hi).below hb⟩
def NewM (base:Nat)(w:World)(E L N O:SL)(Y U D:Nat→Nat→SL)(m:ModV):Prop :=
 ∀ w',(∀ p v,w.cell? p=some v→base≤p.block→w'.cell? p=some v)→ModAt w' E L N O Y U D m
theorem NewM.below {base:Nat}{w w':World}{E L N O:SL}{Y U D:Nat→Nat→SL}{m:ModV}(h:NewM base w E L N O Y U D m)(hb:Below w.heap.size w w'):NewM base w' E L N O Y U D m :=
 fun w'' hc=>h w'' fun p v hp hle=>hc p v ((hb.cell (World.block_lt_of_cell? w _ hp)).trans hp) hle
theorem NewM.le {base base':Nat}{w:World}{E L N O:SL}{Y U D:Nat→Nat→SL}{m:ModV}(h:NewM base w E L N O Y U D m)(hb:base'≤base):NewM base' w E L N O Y U D m :=
 fun w'' hc=>h w'' fun p v hp hle=>hc p v hp (Nat.le_trans hb hle)
def noV:ModV:=⟨[],[],[],0,fun _ _=>[],fun _=>0,fun _=>0,fun _ _=>[],fun _ _=>[]⟩
theorem NewM.none_ (base:Nat)(w:World)(Y U D:Nat→Nat→SL):NewM base w ⟨none,0,0⟩ ⟨none,0,0⟩ ⟨none,0,0⟩ ⟨none,0,0⟩ Y U D noV:=fun w' _ =>
 ⟨IsS.none_ w',IsS.none_ w',IsS.none_ w',rfl,(fun h=>by cases h),fun _=>rfl,Nat.le_refl _,(fun x hx=>by cases hx),(fun i hi=>by cases hi)⟩
def pl (ne:Nat):Nat:=7+2*ne
def ofSeq (ln ne:Nat)(S:Nat→List Int):ModV :=
 ⟨S 0,S (1+ln*pl ne),S (1+ln*pl ne+1),ln,fun i j=>S (1+i*pl ne+j),fun _=>ne,fun _=>ne,fun i k=>S (1+i*pl ne+7+2*k),fun i k=>S (1+i*pl ne+7+2*k+1)⟩
def preC (D DD XD r:Nat):Nat:=if r=0∨r=5 then D else if r=6 then XD else DD
def planC (ln ne D DD XD UD VD k:Nat):Nat :=
 if k=0 then VD else if (k-1)/pl ne<ln then (if (k-1)%pl ne<7 then preC D DD XD ((k-1)%pl ne) else UD) else if (k-1)%pl ne=0 then D else VD
theorem pl_div (ne i r:Nat)(h:r<pl ne):(1+i*pl ne+r-1)/pl ne=i∧(1+i*pl ne+r-1)%pl ne=r:=by
 rw[show 1+i*pl ne+r-1=r+pl ne*i by rw[Nat.mul_comm];omega]
 have p:0<pl ne:=by omega
 exact⟨by rw[Nat.add_mul_div_left _ _ p,Nat.div_eq_of_lt h];omega,by rw[Nat.add_mul_mod_self_left,Nat.mod_eq_of_lt h]⟩
theorem plan_cases (ln ne k:Nat)(h:k<1+ln*pl ne+2) :
  k=0∨(∃ i r,i<ln∧r<7∧k=1+i*pl ne+r)∨(∃ i j,i<ln∧j<ne∧(k=1+i*pl ne+7+2*j∨k=1+i*pl ne+7+2*j+1))∨k=1+ln*pl ne∨k=1+ln*pl ne+1:=by
 by_cases k0:k=0
 ·exact .inl k0
 have p:0<pl ne:=by unfold pl;omega
 have e:=Nat.div_add_mod (k-1) (pl ne)
 have m:=Nat.mod_lt (k-1) p
 rw[Nat.mul_comm] at e
 obtain⟨i,ei⟩:∃ i,(k-1)/pl ne=i:=⟨_,rfl⟩
 obtain⟨r,er⟩:∃ r,(k-1)%pl ne=r:=⟨_,rfl⟩
 rw[ei,er] at e
 rw[er] at m
 by_cases hi:i<ln
 ·by_cases hr:r<7
  ·exact .inr (.inl ⟨i,r,hi,hr,by omega⟩)
  ·refine .inr (.inr (.inl ⟨i,(r-7)/2,hi,?_,?_⟩))
   ·unfold pl at m;omega
   ·omega
 ·have:ln*pl ne≤i*pl ne:=Nat.mul_le_mul_right _ (by omega)
  omega
variable {ln ne D DD XD UD VD:Nat}
theorem planC_list (i r:Nat)(hi:i<ln)(hr:r<7):planC ln ne D DD XD UD VD (1+i*pl ne+r)=preC D DD XD r:=by
 obtain⟨e1,e2⟩:=pl_div ne i r (by unfold pl;omega)
 unfold planC
 rw[e1,e2,if_neg (by omega),if_pos hi,if_pos hr]
theorem planC_up (i j:Nat)(hi:i<ln)(hj:j<ne):planC ln ne D DD XD UD VD (1+i*pl ne+7+2*j)=UD:=by
 obtain⟨e1,e2⟩:=pl_div ne i (7+2*j) (by unfold pl;omega)
 rw[←Nat.add_assoc] at e1 e2
 unfold planC
 rw[e1,e2,if_neg (by omega),if_pos hi,if_neg (by omega)]
theorem planC_down (i j:Nat)(hi:i<ln)(hj:j<ne):planC ln ne D DD XD UD VD (1+i*pl ne+7+2*j+1)=UD:=by
 obtain⟨e1,e2⟩:=pl_div ne i (7+2*j+1) (by unfold pl;omega)
 rw[←Nat.add_assoc,←Nat.add_assoc] at e1 e2
 unfold planC
 rw[e1,e2,if_neg (by omega),if_pos hi,if_neg (by omega)]
theorem planC_norm:planC ln ne D DD XD UD VD (1+ln*pl ne)=D:=by
 obtain⟨e1,e2⟩:=pl_div ne ln 0 (by unfold pl;omega)
 rw[Nat.add_zero] at e1 e2
 unfold planC
 rw[e1,e2,if_neg (by omega),if_neg (by omega),if_pos rfl]
theorem planC_out:planC ln ne D DD XD UD VD (1+ln*pl ne+1)=VD:=by
 obtain⟨e1,e2⟩:=pl_div ne ln 1 (by unfold pl;omega)
 unfold planC
 rw[e1,e2,if_neg (by omega),if_neg (by omega),if_neg (by omega)]
end
section
theorem run_field (tb f:Nat)(hf:f<9)(w:World):(Instr.fieldAt 61 (.pointer (some ⟨tb,0,none⟩)) f).run Tryz.prog w=.ok (.pointer (some ⟨tb,f,none⟩)) w:=by
 rcases (show f=0∨f=1∨f=2∨f=3∨f=4∨f=5∨f=6∨f=7∨f=8 by omega) with rfl|rfl|rfl|rfl|rfl|rfl|rfl|rfl|rfl<;>go_simp
def OpAt (ops:Array Oper)(i:Nat)(dst:Option Tmp)(op:Op)(deps:List Nat):Prop :=
 ∃ o,ops[i]? = some o∧o.dst=dst∧o.op=op∧o.guard=none∧deps.all (fun d=>o.after.any fun e=>e.on==d && Region.binds .any e)=true
def NewS (base:Nat)(w:World)(s:SL)(zs:List Int):Prop:=∀ w',(∀ p v,w.cell? p=some v→base≤p.block→w'.cell? p=some v)→IsS w' s zs
theorem i118':∃ i,Tryz.prog.info? 118=some i∧i.zero=some (.int .i8 0)∧i.size=1∧i.bytes=1:=by
 have:=info118
 cases h:Tryz.prog.info? 118 with
 | none=>rw[h] at this;cases this
 | some i=>rw[h] at this;simp at this;exact⟨i,rfl,this.1,this.2.1,this.2.2⟩
variable {N:Nat}{D:Nat→Option Nat}{a0:Act}{R:(Nat→Bool)→Act→World→Prop}{F:(Nat→Bool)→Nat→Value→World→Prop}{l:Nat→Bool}{a:Act}{w:World}
end
def netsN (x:Int):Nat:=(max x 1).toNat
def szZ (d l v u x:Int):Int:=v*d+l*perZ d (d*d) (x*d) (u*d) (netsN x)+d+v*d
def sizeB (d h l v u x t n:Int):Int:=if okB d h l v u x t n then szZ d l v u x else 0
theorem mul_bounds {a b A B:Int}(ha:0≤a)(ha':a≤A)(hb:0≤b)(hb':b≤B):0≤a*b∧a*b≤A*B :=
 ⟨Int.mul_nonneg ha hb,Int.mul_le_mul ha' hb' hb (by omega)⟩
structure Right (d h l v u x t n:Int):Prop where
 d0:2≤d
 d1:d≤8
 l0:1≤l
 l1:l≤2
 v0:2≤v
 v1:v≤16
 u0:1≤u
 u1:u≤8
 x0:0≤x
 x1:x≤4
 h0:1≤h
 h1:h≤4
 t0:0≤t
 t1:t≤4
 n0:0≤n
 n1:n≤16
theorem right_of {d h l v u x t n:Int}(ok:okB d h l v u x t n=true):Right d h l v u x t n:=by
 unfold okB headsB expertsB at ok
 simp only[Bool.and_eq_true,decide_eq_true_eq] at ok
 obtain⟨⟨a1,a2,a3,a4,a5⟩,a6,⟨a7,a8⟩,⟨a9,a10⟩,⟨a11,a12⟩,a13,a14⟩:=ok
 have:=heads_few a1 a2 a3 a4 a5
 exact⟨by omega,by omega,by omega,by omega,by omega,by omega,by omega,by omega,by omega,by omega,by omega,by omega,by omega,by omega,by omega,by omega⟩
theorem Right.nets {d h l v u x t n:Int}(r:Right d h l v u x t n):max x 1=(netsN x:Int)∧1≤netsN x∧netsN x≤4:=by
 have:=r.x0;have:=r.x1
 unfold netsN
 omega
theorem layer_few (d h l v u x t n P X B:Int)(w:World)(e1:4*d*d=P)(e2:x*d=X)(e3:2*u*d=B)(x1:x<1)(b0:0≤d)(b0':d≤8)(b1:0≤P)(b1':P≤256)(b2:0≤X)(b2':X≤100)(b3:0≤B)(b3':B≤1000)(u0:0≤u)(u1:u≤8) :
  Calls Tryz.prog 66 #[.agg #[.int .i64 d,.int .i64 h,.int .i64 l,.int .i64 v,.int .i64 u,.int .i64 x,.int .i64 t,.int .i64 n]] w fun e w'=>e=.returned (.int .i64 (2*d+P+X+B))∧Below w.heap.size w w':=by
 go_enter Tryz.func66,Tryz.ntmps66
 go_wp2
 go_ret
 exact⟨rfl,bNw (Below.refl _ w) _⟩
theorem layer_many (d h l v u x t n P X A B:Int)(w:World)(e1:4*d*d=P)(e2:x*d=X)(e4:x*2*u=A)(e3:A*d=B)(x1:1<x)(x2:x≤4)(b0:0≤d)(b0':d≤8)(b1:0≤P)(b1':P≤256)(b2:0≤X)(b2':X≤100)(b3:0≤B)(b3':B≤1000)(b4:0≤A)(b4':A≤1000)(u0:0≤u)(u1:u≤8) :
  Calls Tryz.prog 66 #[.agg #[.int .i64 d,.int .i64 h,.int .i64 l,.int .i64 v,.int .i64 u,.int .i64 x,.int .i64 t,.int .i64 n]] w fun e w'=>e=.returned (.int .i64 (2*d+P+X+B))∧Below w.heap.size w w':=by
 go_enter Tryz.func66,Tryz.ntmps66
 go_wp2
 go_ret
 exact⟨rfl,bNw (Below.refl _ w) _⟩
theorem layer_call (d h l v u x t n:Int)(ok:okB d h l v u x t n=true)(w:World):Calls Tryz.prog 66 #[.agg #[.int .i64 d,.int .i64 h,.int .i64 l,.int .i64 v,.int .i64 u,.int .i64 x,.int .i64 t,.int .i64 n]] w fun e w'=>e=.returned (.int .i64 (perZ d (d*d) (x*d) (u*d) (netsN x)))∧Below w.heap.size w w':=by
 have r:=right_of ok
 obtain⟨hx,-,n4⟩:=r.nets
 have d0:=r.d0;have d1:=r.d1;have u0:=r.u0;have u1:=r.u1;have x0:=r.x0;have x1:=r.x1
 have p2:=mul_bounds (show 0≤d by omega) d1 (show 0≤d by omega) d1
 have p3:=mul_bounds r.x0 r.x1 (show 0≤d by omega) d1
 have p4:=mul_bounds (show 0≤u by omega) u1 (show 0≤d by omega) d1
 have eP:4*d*d=4*(d*d):=Int.mul_assoc _ _ _
 rcases Int.lt_trichotomy x 1 with h1|h1|h1
 ·have eN:netsN x=1:=by unfold netsN;omega
  have eB:2*u*d=2*(u*d):=Int.mul_assoc _ _ _
  have e:perZ d (d*d) (x*d) (u*d) (netsN x)=2*d+4*d*d+x*d+2*u*d:=by rw[eN,eP,eB];unfold perZ;omega
  rw[e]
  exact layer_few d h l v u x t n _ _ _ w rfl rfl rfl h1 (by omega) d1 (by omega) (by omega) (by omega) (by omega) (by omega) (by omega) (by omega) u1
 ·exfalso
  unfold okB expertsB at ok
  simp only[Bool.and_eq_true,decide_eq_true_eq] at ok
  omega
 ·have eN:(netsN x:Int)=x:=by rw[←hx];omega
  have q1:=mul_bounds (show 0≤x*2 by omega) (show x*2≤8 by omega) (show 0≤u by omega) u1
  have q2:=mul_bounds q1.1 (show x*2*u≤64 by omega) (show 0≤d by omega) d1
  have e:perZ d (d*d) (x*d) (u*d) (netsN x)=2*d+4*d*d+x*d+x*2*u*d:=by
   unfold perZ
   rw[eN,eP,show x*(u*d+u*d)=x*2*u*d by rw[Int.mul_assoc (x*2),Int.mul_assoc x];congr 1;omega]
   omega
  rw[e]
  exact layer_many d h l v u x t n _ _ _ _ w rfl rfl rfl rfl h1 x1 (by omega) d1 (by omega) (by omega) (by omega) (by omega) q2.1 (by omega) q1.1 (by omega) (by omega) u1
theorem refSize_yes (d h l v u x t n V L M:Int)(e1:2*v*d=V)(e2:l*L=M)(b0:0≤d)(b0':d≤8)(v0:0≤v)(v1:v≤16)(l0:0≤l)(l1:l≤2)(V0:0≤V)(V1:V≤1000)(M0:0≤M)(M1:M≤100000)
  (w1:IntKind.i64.wrap (2*v)=2*v) (w2:IntKind.i64.wrap V=V) (w3:IntKind.i64.wrap (V+d)=V+d) (w4:IntKind.i64.wrap M=M) (w5:IntKind.i64.wrap (V+d+M)=V+d+M)
  (k10:∀ w,Calls Tryz.prog 46 #[.agg #[.int .i64 d,.int .i64 h,.int .i64 l,.int .i64 v,.int .i64 u,.int .i64 x,.int .i64 t,.int .i64 n]] w fun e w'=>e=.returned (.bool true)∧Below w.heap.size w w') (k34:∀ w,Calls Tryz.prog 66 #[.agg #[.int .i64 d,.int .i64 h,.int .i64 l,.int .i64 v,.int .i64 u,.int .i64 x,.int .i64 t,.int .i64 n]] w fun e w'=>e=.returned (.int .i64 L)∧Below w.heap.size w w') (w:World) :
  Calls Tryz.prog 37 #[.agg #[.int .i64 d,.int .i64 h,.int .i64 l,.int .i64 v,.int .i64 u,.int .i64 x,.int .i64 t,.int .i64 n]] w fun e w'=>e=.returned (.int .i64 (V+d+M))∧Below w.heap.size w w':=by
 have hb:=bNw (Below.refl w.heap.size w) (.cells #[.int .i64 d,.int .i64 h,.int .i64 l,.int .i64 v,.int .i64 u,.int .i64 x,.int .i64 t,.int .i64 n] 23)
 have key:=Blk.new 23 w #[.int .i64 d,.int .i64 h,.int .i64 l,.int .i64 v,.int .i64 u,.int .i64 x,.int .i64 t,.int .i64 n]
 have HK:=hdn key
 clear key
 go_enter Tryz.func37,Tryz.ntmps37
 go_wp2_with (first
  | (go_at_call 46;refine (k10 _).mono ?_;rintro e W1 ⟨rfl,h1⟩;have q1:=HK.out.kept h1;obtain⟨c0,c1,c2,c3,c4,c5,c6,c7⟩:=q1.cfg;replace hb:=bTn hb h1;clear h1 HK))
 go_region_held3 (fun W=>W.cell? ⟨w.heap.size,0,none⟩=some (.int .i64 d)∧W.cell? ⟨w.heap.size,1,none⟩=some (.int .i64 h)∧W.cell? ⟨w.heap.size,2,none⟩=some (.int .i64 l)∧W.cell? ⟨w.heap.size,3,none⟩=some (.int .i64 v)∧W.cell? ⟨w.heap.size,4,none⟩=some (.int .i64 u)∧W.cell? ⟨w.heap.size,5,none⟩=some (.int .i64 x)∧W.cell? ⟨w.heap.size,6,none⟩=some (.int .i64 t)∧W.cell? ⟨w.heap.size,7,none⟩=some (.int .i64 n)) (exact⟨c0,c1,c2,c3,c4,c5,c6,c7⟩) (first
  | (go_at_call 66;refine (k34 _).mono ?_;rintro e W2 ⟨rfl,h2⟩;have q2:=q1.kept (w':=W2) ⟨h2.os,h2.tape,h2.output,h2.size,h2.block⟩;clear c0 c1 c2 c3 c4 c5 c6 c7;obtain⟨c0,c1,c2,c3,c4,c5,c6,c7⟩:=q2.cfg;replace hb:=bTn hb ⟨h2.os,h2.tape,h2.output,h2.size,h2.block⟩;clear h2))
 go_wp2
 go_ret
 exact⟨rfl,hb⟩
theorem refSize_no (d h l v u x t n:Int)(k10:∀ w,Calls Tryz.prog 46 #[.agg #[.int .i64 d,.int .i64 h,.int .i64 l,.int .i64 v,.int .i64 u,.int .i64 x,.int .i64 t,.int .i64 n]] w fun e w'=>e=.returned (.bool false)∧Below w.heap.size w w')(w:World) :
  Calls Tryz.prog 37 #[.agg #[.int .i64 d,.int .i64 h,.int .i64 l,.int .i64 v,.int .i64 u,.int .i64 x,.int .i64 t,.int .i64 n]] w fun e w'=>e=.returned (.int .i64 0)∧Below w.heap.size w w':=by
 have hb:=bNw (Below.refl w.heap.size w) (.cells #[.int .i64 d,.int .i64 h,.int .i64 l,.int .i64 v,.int .i64 u,.int .i64 x,.int .i64 t,.int .i64 n] 23)
 go_enter Tryz.func37,Tryz.ntmps37
 go_wp2_with (first|(go_at_call 46;refine (k10 _).mono ?_;rintro e W1 ⟨rfl,h1⟩;replace hb:=bTn hb h1;clear h1))
 go_ret
 exact⟨rfl,hb⟩
theorem wrap_fits {z:Int}(h0:0≤z)(h1:z≤1000000):IntKind.i64.wrap z=z:=by rw[IntKind.wrap_i64];omega
theorem per_bounds {d h l v u x t n:Int}(r:Right d h l v u x t n):0≤perZ d (d*d) (x*d) (u*d) (netsN x)∧perZ d (d*d) (x*d) (u*d) (netsN x)≤2000:=by
 obtain⟨hx,-,n4⟩:=r.nets
 have d0:=r.d0;have d1:=r.d1;have u0:=r.u0;have u1:=r.u1;have x0:=r.x0;have x1:=r.x1
 have p2:=mul_bounds (show 0≤d by omega) d1 (show 0≤d by omega) d1
 have p3:=mul_bounds r.x0 r.x1 (show 0≤d by omega) d1
 have p4:=mul_bounds (show 0≤u by omega) u1 (show 0≤d by omega) d1
 have p5:=int_upto n4 (show 0≤u*d+u*d by omega)
 unfold perZ
 omega
theorem refSize_call (d h l v u x t n:Int)(w:World):Calls Tryz.prog 37 #[.agg #[.int .i64 d,.int .i64 h,.int .i64 l,.int .i64 v,.int .i64 u,.int .i64 x,.int .i64 t,.int .i64 n]] w fun e w'=>e=.returned (.int .i64 (sizeB d h l v u x t n))∧Below w.heap.size w w':=by
 have k10:=refConfig_call d h l v u x t n
 unfold sizeB
 cases ok:okB d h l v u x t n with
 | false=>simp only[ok] at k10;exact refSize_no d h l v u x t n k10 w
 | true =>
  simp only[ok] at k10
  have r:=right_of ok
  have pb:=per_bounds r
  have d0:=r.d0;have d1:=r.d1;have l0:=r.l0;have l1:=r.l1;have v0:=r.v0;have v1:=r.v1
  have p1:=mul_bounds (show 0≤v by omega) v1 (show 0≤d by omega) d1
  have pl:=mul_bounds (show 0≤l by omega) l1 pb.1 pb.2
  have eV:2*v*d=2*(v*d):=Int.mul_assoc _ _ _
  rw[if_pos rfl]
  have e:szZ d l v u x=2*v*d+d+l*perZ d (d*d) (x*d) (u*d) (netsN x):=by rw[eV];unfold szZ;omega
  rw[e]
  exact refSize_yes d h l v u x t n _ _ _ rfl rfl (by omega) d1 (by omega) v1 (by omega) l1 (by omega) (by omega) (by omega) (by omega) (wrap_fits (by omega) (by omega)) (wrap_fits (by omega) (by omega)) (wrap_fits (by omega) (by omega)) (wrap_fits (by omega) (by omega)) (wrap_fits (by omega) (by omega)) k10 (layer_call d h l v u x t n ok) w
def sqZ (z:List Int):Nat→Int
 | 0=>0
 | k+1=>addZ (sqZ z k) (cZ (z.getD k 0)*cZ (z.getD k 0))
theorem wf_sqZ (z:List Int)(k:Nat):(Lit.int .i64 (sqZ z k)).wf=true:=by
 cases k with
 | zero=>show (Lit.int .i64 0).wf=true;decide
 | succ k=>exact wf_addZ _ _
theorem sq_nat (x:Int)(h:-2147483648≤x∧x≤2147483648):0≤x*x∧x*x≤4611686018427387904:=by
 have e:x*x=((x.natAbs*x.natAbs:Nat):Int):=by rw[←Int.natAbs_mul_self]
 have b:x.natAbs*x.natAbs≤2147483648*2147483648:=Nat.mul_le_mul (by omega) (by omega)
 omega
theorem sq_prod (x:Int):0≤cZ x*cZ x∧cZ x*cZ x≤4611686018427387904:=by
 have b:=cZb x
 exact sq_nat _ ⟨by omega,by omega⟩
theorem sqZ_bounds (z:List Int)(k:Nat):0≤sqZ z k∧sqZ z k≤9223372036854775807:=by
 induction k with
 | zero=>exact⟨Int.le_refl _,show (0:Int)≤9223372036854775807 by decide⟩
 | succ k ih =>
  have p:=sq_prod (z.getD k 0)
  show 0≤addZ (sqZ z k) _∧addZ (sqZ z k) _≤_
  generalize cZ (z.getD k 0)*cZ (z.getD k 0)=P at *
  unfold addZ
  repeat' split
  all_goals omega
def meanZ (z:List Int)(n:Nat):Int:=cZ (shiftZ ((sqZ z n).tdiv n) 16+1)
theorem tdiv_bounds (S:Int)(n:Nat)(h0:0≤S):0≤S.tdiv n∧S.tdiv n≤S:=by
 rw[Int.tdiv_eq_ediv_of_nonneg h0]
 exact⟨Int.ediv_nonneg h0 (Int.natCast_nonneg n),Int.ediv_le_self _ h0⟩
theorem shift16_bounds (x:Int)(h0:0≤x)(h1:x≤9223372036854775807):0≤shiftZ x 16∧shiftZ x 16≤4611686018427387905:=by
 unfold shiftZ
 rw[if_neg (by omega),if_neg (by omega)]
 have:=shN_bounds x (min 16 62) h0 (by omega) (by omega)
 omega
theorem meanSquare_call (a0:Option Addr)(n c0:Nat)(zs:List Int)(w:World)(h0:Reads .i64 w a0 n zs)(hn:0<n) :
  Calls Tryz.prog 183 #[.slice a0 n c0] w fun e w'=>e=.returned (.int .i64 (meanZ zs n))∧w'=w:=by
 have hm:=h0.max
 unfold meanZ
 go_enter Tryz.func183,Tryz.ntmps183
 go_wp2
 go_loopw [3,8] (fun s i wr=>∃ k:Nat,k≤n∧i=.int .i64 k∧s=.int .i64 (sqZ zs k)∧wr=w) (fun _ i _=>n-(intOf i).toNat)
 case atStart=>exact⟨0,Nat.zero_le _,rfl,rfl,rfl⟩
 case round =>
  obtain⟨k,hk,rfl,rfl,hw⟩:=hrel
  subst hw
  by_cases hlt:k<n
  ·obtain⟨x,rfl⟩:=h0.some_ (by omega)
   have cx:=h0.cell x rfl k hlt
   have es:sqZ zs (k+1)=addZ (sqZ zs k) (cZ (zs.getD k 0)*cZ (zs.getD k 0)):=rfl
   have ws:=wf_sqZ zs k
   obtain⟨Z,eZ⟩:∃ Z,zs.getD k 0=Z:=⟨_,rfl⟩
   obtain⟨S,eS⟩:∃ S,sqZ zs k=S:=⟨_,rfl⟩
   rw[eZ] at cx es
   rw[eS] at es ws ⊢
   have Es:Hid (sqZ zs (k+1)=addZ S (cZ Z*cZ Z)):=es
   clear eZ eS es
   have bp:=sq_prod Z
   have wp:(Lit.int .i64 (cZ Z*cZ Z)).wf=true:=WalkArith.wf_i64 ⟨by omega,by omega⟩
   go_wp2_with (first|(go_at_call 79;refine (cCa _ _).mono ?_;rintro e w' ⟨rfl,h⟩;obtain rfl:=h.symm)|(go_at_call 111;refine (add_call _ _ ws wp _).mono ?_;rintro e w' ⟨rfl,h⟩;obtain rfl:=h.symm))
   go_roundw
   case rel=>exact⟨k+1,by omega,by go_num,by rw[Es.out],trivial⟩
   case measure=>simp[intOf];omega
  ·have e:k=n:=by omega
   subst e
   have sb:=sqZ_bounds zs k
   obtain⟨S,eS⟩:∃ S,sqZ zs k=S:=⟨_,rfl⟩
   rw[eS] at sb ⊢
   have ES:Hid (sqZ zs k=S):=eS
   clear eS
   have tb:=tdiv_bounds S k sb.1
   obtain⟨t0,t1⟩:=tb
   have t2:S.tdiv k≤9223372036854775807:=by omega
   have wq:(Lit.int .i64 (S.tdiv k)).wf=true:=WalkArith.wf_i64 ⟨by omega,by omega⟩
   have shb:=shift16_bounds (S.tdiv k) t0 t2
   obtain⟨u0,u1⟩:=shb
   have kz:((k:Int)==0)=false:=by simp;omega
   go_wp2_with (first|(go_at_call 201;refine (shift_call _ _ wq (by decide) _).mono ?_;rintro e w' ⟨rfl,h⟩;obtain rfl:=h.symm)|(go_at_call 79;refine (cCa _ _).mono ?_;rintro e w' ⟨rfl,h⟩;obtain rfl:=h.symm))
   go_ret
   exact⟨by obtain rfl:=ES.out;rfl,rfl⟩
def weighZ (x y:Int):Int:=cZ (shiftZ (x*y) 6)
theorem weigh_bounds (x y:Int)(hx:-2147483648≤x∧x≤2147483647)(hy:-128≤y∧y≤127):-274877906944≤x*y∧x*y≤274877906944:=by
 have h:(x*y).natAbs≤2147483648*128:=by
  rw[Int.natAbs_mul]
  exact Nat.mul_le_mul (by omega) (by omega)
 omega
theorem wf_i8 {y:Int}(h:(Lit.int .i8 y).wf=true):-128≤y∧y≤127:=by
 simpa [Lit.wf,IntKind.min,IntKind.max,IntKind.signed,IntKind.bits] using h
theorem weighed_call (x y:Int)(hx:-2147483648≤x∧x≤2147483647)(hy:(Lit.int .i8 y).wf=true)(w:World) :
  Calls Tryz.prog 184 #[.int .i64 x,.int .i8 y] w fun e w'=>e=.returned (.int .i64 (weighZ x y))∧w'=w:=by
 have b8:=wf_i8 hy
 have bp:=weigh_bounds x y hx b8
 obtain⟨p0,p1⟩:=bp
 obtain⟨b0,b1⟩:=b8
 obtain⟨x0,x1⟩:=hx
 have wp:(Lit.int .i64 (x*y)).wf=true:=WalkArith.wf_i64 ⟨by omega,by omega⟩
 unfold weighZ
 go_enter Tryz.func184,Tryz.ntmps184
 go_wp2_with (first|(go_at_call 201;refine (shift_call _ _ wp (by decide) _).mono ?_;rintro e w' ⟨rfl,h⟩;obtain rfl:=h.symm)|(go_at_call 79;refine (cCa _ _).mono ?_;rintro e w' ⟨rfl,h⟩;obtain rfl:=h.symm))
 go_ret
 exact⟨rfl,rfl⟩
def rmsF (xs ws:List Int)(r:Int)(j:Nat):Int:=weighZ (mulZ (xs.getD j 0) r) (ws.getD j 0)
def rmsZ (xs ws:List Int)(n:Nat):List Int:=(List.range n).map (rmsF xs ws (rsqrtZ (meanZ xs n)))
theorem rms_same (a0:Option Addr)(n c0:Nat)(xs:List Int)(a1:Option Addr)(c1:Nat)(ys:List Int)(w:World)(h0:Reads .i64 w a0 n xs)(h1:Reads .i8 w a1 n ys)(hn:0<n)(hb:n*8≤281474976710656) :
  Calls Tryz.prog 148 #[.slice a0 n c0,.slice a1 n c1] w fun e w'=>(∃ a c,e=.returned (.tuple #[.slice a n c,.int .i64 0])∧Reads .i64 w' a n (rmsZ xs ys n)∧∀ x,a=some x→w.heap.size≤x.block)∧Below w.heap.size w w':=by
 obtain⟨i0,hi,hz0,hz1,hz2⟩:=info_parts info2
 have hm:=h0.max
 have rb:=rsqrtZ_bounds (meanZ xs n)
 have kms:=meanSquare_call a0 n c0 xs w h0 hn
 have krs:=fun W=>rsqrt_call (meanZ xs n) W
 unfold rmsZ
 obtain⟨r,er⟩:∃ r,rsqrtZ (meanZ xs n)=r:=⟨_,rfl⟩
 obtain⟨M,eM⟩:∃ M,meanZ xs n=M:=⟨_,rfl⟩
 rw[er] at rb ⊢
 rw[er] at krs
 rw[eM] at kms krs
 clear er eM
 have wr':(Lit.int .i64 r).wf=true:=WalkArith.wf_i64 ⟨by omega,by omega⟩
 have nz:((n:Int)==0)=false:=by simp;omega
 go_enter Tryz.func148,Tryz.ntmps148
 go_wp2_with (first
  | (go_at_call 183;refine kms.mono ?_;rintro e w' ⟨rfl,h⟩;obtain rfl:=h.symm)
  | (go_at_call 182;refine (krs _).mono ?_;rintro e w' ⟨rfl,h⟩;obtain rfl:=h.symm)
  | (at_make;refine wpList_make_full _ rfl (.tmp 23) (.tmp 23) 70 rfl w.heap.size 2 i0 (.int .i64 0) 1 Tryz.underlying70 hi hz0 hz1 .i64 .i64 _ _ n rfl rfl rfl rfl (by rw[hz2];omega) (by unfold maxLen;omega) (Nat.le_refl _) ?_;intro w1 hown hgrow))
 have hbel:Below w.heap.size w w1:=(Below.refl _ _).grown hgrow (Nat.le_refl _) (fun k h=>by cases h)
 go_wp2
 go_loopw [27] (fun i wr=>∃ k:Nat,k≤n∧i=.int .i64 k∧Below w.heap.size w wr∧∃ cs,wr.ownsRow w.heap.size 2 1 (.slice (some ⟨w.heap.size,0,none⟩) n n) n cs∧∀ j,j<k→cs[j]? = some (.int .i64 (rmsF xs ys r j))) (fun i _=>n-(intOf i).toNat)
 case atStart=>exact⟨0,Nat.zero_le _,rfl,hbel,_,hown,fun j hj=>by omega⟩
 case round =>
  obtain⟨k,hk,rfl,hbr,cs,ho,hcs⟩:=hrel
  by_cases hlt:k<n
  ·have hr:=h0.below hbr
   have hq:=h1.below hbr
   obtain⟨x,rfl⟩:=h0.some_ (by omega)
   obtain⟨y,rfl⟩:=h1.some_ (by omega)
   have cx:=hr.cell x rfl k hlt
   have cy:=hq.cell y rfl k hlt
   have wx:=h0.wf k
   have wy:=h1.wf k
   have hlen:=oLe ho
   have cell:wr.cell? ⟨w.heap.size,k,none⟩=cs[k]?:=ho.cellAt k (by omega)
   obtain⟨u,hu⟩:∃ u,cs[k]? = some u:=⟨cs[k],by simp[hlen,hlt]⟩
   rw[hu] at cell
   have froz:=ho.frozenAt k
   have st:=fun v=>ho.stored k v
   have step:=fun v (h:v=Value.int .i64 (rmsF xs ys r k))=>set_step (F:=fun j=>Value.int .i64 (rmsF xs ys r j)) hlen hlt h hcs
   obtain⟨X,eX⟩:∃ X,xs.getD k 0=X:=⟨_,rfl⟩
   obtain⟨Y,eY⟩:∃ Y,ys.getD k 0=Y:=⟨_,rfl⟩
   have eP:rmsF xs ys r k=weighZ (mulZ X r) Y:=by unfold rmsF;rw[eX,eY]
   rw[eX] at cx wx
   rw[eY] at cy wy
   rw[eP] at step
   have R:Hid (Below w.heap.size w (wr.setCell ⟨w.heap.size,k,none⟩ (.int .i64 (weighZ (mulZ X r) Y)))∧∃ cs',(wr.setCell ⟨w.heap.size,k,none⟩ (.int .i64 (weighZ (mulZ X r) Y))).ownsRow w.heap.size 2 1 (.slice (some ⟨w.heap.size,0,none⟩) n n) n cs'∧∀ j,j<k+1→cs'[j]? = some (.int .i64 (rmsF xs ys r j))) :=
    ⟨hbr.setCell (Nat.le_refl _) _,_,(st _).1,step _ rfl⟩
   have mb:=mulZ_bounds X r
   clear eX eY eP step st hcs ho hu hlen hr hbr hq hown hgrow hbel h0 h1 hi hz0 hz1 hz2 kms krs
   go_wp2
   go_region_with (first
    | (go_at_call 185;refine (mul_call _ _ wx wr' _).mono ?_;rintro e w' ⟨rfl,rfl⟩)
    | (go_at_call 184;refine (weighed_call _ _ mb wy _).mono ?_;rintro e w' ⟨rfl,rfl⟩))
   all_goals
    go_wp2
    go_roundw
    case rel=>exact⟨k+1,by omega,by go_num,R.out.1.drew,R.out.2⟩
    case measure=>simp[intOf];omega
  ·have e:k=n:=by omega
   subst e
   have fin:=oRa (zs:=(List.range k).map (rmsF xs ys r)) ho (by simp) (fun z hz=>by obtain⟨y,_,rfl⟩:=List.mem_map.1 hz;exact wCz _) (fun j hj=>by rw[hcs j hj];simp[hj])
   clear hcs ho
   go_wp2
   go_ret2
   exact⟨⟨_,_,rfl,fin,fun x hx=>Nat.le_of_eq (congrArg Addr.block (Option.some.inj hx))⟩,hbr⟩
theorem set8 {t:TypeId}{W:World}{b:Nat}{x0 x1 x2 x3 x4 x5 x6 x7:Value}(h:Blk t W b #[x0,x1,x2,x3,x4,x5,x6,x7])(v0 v1 v2 v3 v4 v5 v6 v7:Value) :
  ∃ W',((((((((W.setCell ⟨b,0,none⟩ v0).setCell ⟨b,1,none⟩ v1).setCell ⟨b,2,none⟩ v2).setCell ⟨b,3,none⟩ v3).setCell ⟨b,4,none⟩ v4).setCell ⟨b,5,none⟩ v5).setCell ⟨b,6,none⟩ v6).setCell ⟨b,7,none⟩ v7)=W'∧Blk t W' b #[v0,v1,v2,v3,v4,v5,v6,v7]∧Only b W W'∧W'.heap.size=W.heap.size:=by
 have z0:W.heap.size=W.heap.size:=rfl
 have s1:Blk t (W.setCell ⟨b,0,none⟩ v0) b #[v0,x1,x2,x3,x4,x5,x6,x7]:=h.set 0 v0
 have n1:=(Only.set b 0 W v0)
 have z1:(W.setCell ⟨b,0,none⟩ v0).heap.size=W.heap.size:=(by simp[World.setCell]:_=W.heap.size).trans z0
 obtain⟨W1,e1⟩:∃ W1,W.setCell ⟨b,0,none⟩ v0=W1:=⟨_,rfl⟩
 rw[e1] at s1 n1 z1 ⊢
 have s2:Blk t (W1.setCell ⟨b,1,none⟩ v1) b #[v0,v1,x2,x3,x4,x5,x6,x7]:=s1.set 1 v1
 have n2:=n1.trans (Only.set b 1 W1 v1)
 have z2:(W1.setCell ⟨b,1,none⟩ v1).heap.size=W.heap.size:=(by simp[World.setCell]:_=W1.heap.size).trans z1
 obtain⟨W2,e2⟩:∃ W2,W1.setCell ⟨b,1,none⟩ v1=W2:=⟨_,rfl⟩
 rw[e2] at s2 n2 z2 ⊢
 have s3:Blk t (W2.setCell ⟨b,2,none⟩ v2) b #[v0,v1,v2,x3,x4,x5,x6,x7]:=s2.set 2 v2
 have n3:=n2.trans (Only.set b 2 W2 v2)
 have z3:(W2.setCell ⟨b,2,none⟩ v2).heap.size=W.heap.size:=(by simp[World.setCell]:_=W2.heap.size).trans z2
 obtain⟨W3,e3⟩:∃ W3,W2.setCell ⟨b,2,none⟩ v2=W3:=⟨_,rfl⟩
 rw[e3] at s3 n3 z3 ⊢
 have s4:Blk t (W3.setCell ⟨b,3,none⟩ v3) b #[v0,v1,v2,v3,x4,x5,x6,x7]:=s3.set 3 v3
 have n4:=n3.trans (Only.set b 3 W3 v3)
 have z4:(W3.setCell ⟨b,3,none⟩ v3).heap.size=W.heap.size:=(by simp[World.setCell]:_=W3.heap.size).trans z3
 obtain⟨W4,e4⟩:∃ W4,W3.setCell ⟨b,3,none⟩ v3=W4:=⟨_,rfl⟩
 rw[e4] at s4 n4 z4 ⊢
 have s5:Blk t (W4.setCell ⟨b,4,none⟩ v4) b #[v0,v1,v2,v3,v4,x5,x6,x7]:=s4.set 4 v4
 have n5:=n4.trans (Only.set b 4 W4 v4)
 have z5:(W4.setCell ⟨b,4,none⟩ v4).heap.size=W.heap.size:=(by simp[World.setCell]:_=W4.heap.size).trans z4
 obtain⟨W5,e5⟩:∃ W5,W4.setCell ⟨b,4,none⟩ v4=W5:=⟨_,rfl⟩
 rw[e5] at s5 n5 z5 ⊢
 have s6:Blk t (W5.setCell ⟨b,5,none⟩ v5) b #[v0,v1,v2,v3,v4,v5,x6,x7]:=s5.set 5 v5
 have n6:=n5.trans (Only.set b 5 W5 v5)
 have z6:(W5.setCell ⟨b,5,none⟩ v5).heap.size=W.heap.size:=(by simp[World.setCell]:_=W5.heap.size).trans z5
 obtain⟨W6,e6⟩:∃ W6,W5.setCell ⟨b,5,none⟩ v5=W6:=⟨_,rfl⟩
 rw[e6] at s6 n6 z6 ⊢
 have s7:Blk t (W6.setCell ⟨b,6,none⟩ v6) b #[v0,v1,v2,v3,v4,v5,v6,x7]:=s6.set 6 v6
 have n7:=n6.trans (Only.set b 6 W6 v6)
 have z7:(W6.setCell ⟨b,6,none⟩ v6).heap.size=W.heap.size:=(by simp[World.setCell]:_=W6.heap.size).trans z6
 obtain⟨W7,e7⟩:∃ W7,W6.setCell ⟨b,6,none⟩ v6=W7:=⟨_,rfl⟩
 rw[e7] at s7 n7 z7 ⊢
 have s8:Blk t (W7.setCell ⟨b,7,none⟩ v7) b #[v0,v1,v2,v3,v4,v5,v6,v7]:=s7.set 7 v7
 have n8:=n7.trans (Only.set b 7 W7 v7)
 have z8:(W7.setCell ⟨b,7,none⟩ v7).heap.size=W.heap.size:=(by simp[World.setCell]:_=W7.heap.size).trans z7
 obtain⟨W8,e8⟩:∃ W8,W7.setCell ⟨b,7,none⟩ v7=W8:=⟨_,rfl⟩
 rw[e8] at s8 n8 z8 ⊢
 exact⟨_,rfl,s8,n8,z8⟩
theorem set9 {t:TypeId}{W:World}{b:Nat}{x0 x1 x2 x3 x4 x5 x6 x7 x8:Value}(h:Blk t W b #[x0,x1,x2,x3,x4,x5,x6,x7,x8])(v0 v1 v2 v3 v4 v5 v6 v7 v8:Value) :
  ∃ W',(((((((((W.setCell ⟨b,0,none⟩ v0).setCell ⟨b,1,none⟩ v1).setCell ⟨b,2,none⟩ v2).setCell ⟨b,3,none⟩ v3).setCell ⟨b,4,none⟩ v4).setCell ⟨b,5,none⟩ v5).setCell ⟨b,6,none⟩ v6).setCell ⟨b,7,none⟩ v7).setCell ⟨b,8,none⟩ v8)=W'∧Blk t W' b #[v0,v1,v2,v3,v4,v5,v6,v7,v8]∧Only b W W'∧W'.heap.size=W.heap.size:=by
 have z0:W.heap.size=W.heap.size:=rfl
 have s1:Blk t (W.setCell ⟨b,0,none⟩ v0) b #[v0,x1,x2,x3,x4,x5,x6,x7,x8]:=h.set 0 v0
 have n1:=(Only.set b 0 W v0)
 have z1:(W.setCell ⟨b,0,none⟩ v0).heap.size=W.heap.size:=(by simp[World.setCell]:_=W.heap.size).trans z0
 obtain⟨W1,e1⟩:∃ W1,W.setCell ⟨b,0,none⟩ v0=W1:=⟨_,rfl⟩
 rw[e1] at s1 n1 z1 ⊢
 have s2:Blk t (W1.setCell ⟨b,1,none⟩ v1) b #[v0,v1,x2,x3,x4,x5,x6,x7,x8]:=s1.set 1 v1
 have n2:=n1.trans (Only.set b 1 W1 v1)
 have z2:(W1.setCell ⟨b,1,none⟩ v1).heap.size=W.heap.size:=(by simp[World.setCell]:_=W1.heap.size).trans z1
 obtain⟨W2,e2⟩:∃ W2,W1.setCell ⟨b,1,none⟩ v1=W2:=⟨_,rfl⟩
 rw[e2] at s2 n2 z2 ⊢
 have s3:Blk t (W2.setCell ⟨b,2,none⟩ v2) b #[v0,v1,v2,x3,x4,x5,x6,x7,x8]:=s2.set 2 v2
 have n3:=n2.trans (Only.set b 2 W2 v2)
 have z3:(W2.setCell ⟨b,2,none⟩ v2).heap.size=W.heap.size:=(by simp[World.setCell]:_=W2.heap.size).trans z2
 obtain⟨W3,e3⟩:∃ W3,W2.setCell ⟨b,2,none⟩ v2=W3:=⟨_,rfl⟩
 rw[e3] at s3 n3 z3 ⊢
 have s4:Blk t (W3.setCell ⟨b,3,none⟩ v3) b #[v0,v1,v2,v3,x4,x5,x6,x7,x8]:=s3.set 3 v3
 have n4:=n3.trans (Only.set b 3 W3 v3)
 have z4:(W3.setCell ⟨b,3,none⟩ v3).heap.size=W.heap.size:=(by simp[World.setCell]:_=W3.heap.size).trans z3
 obtain⟨W4,e4⟩:∃ W4,W3.setCell ⟨b,3,none⟩ v3=W4:=⟨_,rfl⟩
 rw[e4] at s4 n4 z4 ⊢
 have s5:Blk t (W4.setCell ⟨b,4,none⟩ v4) b #[v0,v1,v2,v3,v4,x5,x6,x7,x8]:=s4.set 4 v4
 have n5:=n4.trans (Only.set b 4 W4 v4)
 have z5:(W4.setCell ⟨b,4,none⟩ v4).heap.size=W.heap.size:=(by simp[World.setCell]:_=W4.heap.size).trans z4
 obtain⟨W5,e5⟩:∃ W5,W4.setCell ⟨b,4,none⟩ v4=W5:=⟨_,rfl⟩
 rw[e5] at s5 n5 z5 ⊢
 have s6:Blk t (W5.setCell ⟨b,5,none⟩ v5) b #[v0,v1,v2,v3,v4,v5,x6,x7,x8]:=s5.set 5 v5
 have n6:=n5.trans (Only.set b 5 W5 v5)
 have z6:(W5.setCell ⟨b,5,none⟩ v5).heap.size=W.heap.size:=(by simp[World.setCell]:_=W5.heap.size).trans z5
 obtain⟨W6,e6⟩:∃ W6,W5.setCell ⟨b,5,none⟩ v5=W6:=⟨_,rfl⟩
 rw[e6] at s6 n6 z6 ⊢
 have s7:Blk t (W6.setCell ⟨b,6,none⟩ v6) b #[v0,v1,v2,v3,v4,v5,v6,x7,x8]:=s6.set 6 v6
 have n7:=n6.trans (Only.set b 6 W6 v6)
 have z7:(W6.setCell ⟨b,6,none⟩ v6).heap.size=W.heap.size:=(by simp[World.setCell]:_=W6.heap.size).trans z6
 obtain⟨W7,e7⟩:∃ W7,W6.setCell ⟨b,6,none⟩ v6=W7:=⟨_,rfl⟩
 rw[e7] at s7 n7 z7 ⊢
 have s8:Blk t (W7.setCell ⟨b,7,none⟩ v7) b #[v0,v1,v2,v3,v4,v5,v6,v7,x8]:=s7.set 7 v7
 have n8:=n7.trans (Only.set b 7 W7 v7)
 have z8:(W7.setCell ⟨b,7,none⟩ v7).heap.size=W.heap.size:=(by simp[World.setCell]:_=W7.heap.size).trans z7
 obtain⟨W8,e8⟩:∃ W8,W7.setCell ⟨b,7,none⟩ v7=W8:=⟨_,rfl⟩
 rw[e8] at s8 n8 z8 ⊢
 have s9:Blk t (W8.setCell ⟨b,8,none⟩ v8) b #[v0,v1,v2,v3,v4,v5,v6,v7,v8]:=s8.set 8 v8
 have n9:=n8.trans (Only.set b 8 W8 v8)
 have z9:(W8.setCell ⟨b,8,none⟩ v8).heap.size=W.heap.size:=(by simp[World.setCell]:_=W8.heap.size).trans z8
 obtain⟨W9,e9⟩:∃ W9,W8.setCell ⟨b,8,none⟩ v8=W9:=⟨_,rfl⟩
 rw[e9] at s9 n9 z9 ⊢
 exact⟨_,rfl,s9,n9,z9⟩
theorem Blk.o9 {t0:TypeId}{w:World}{b:Nat}{cs:Array Value}(k:Blk t0 w b cs):w.frozen? ⟨b,0,none⟩=false∧w.frozen? ⟨b,1,none⟩=false∧w.frozen? ⟨b,2,none⟩=false∧w.frozen? ⟨b,3,none⟩=false∧w.frozen? ⟨b,4,none⟩=false∧w.frozen? ⟨b,5,none⟩=false∧w.frozen? ⟨b,6,none⟩=false∧w.frozen? ⟨b,7,none⟩=false∧w.frozen? ⟨b,8,none⟩=false:=⟨k.open_ 0,k.open_ 1,k.open_ 2,k.open_ 3,k.open_ 4,k.open_ 5,k.open_ 6,k.open_ 7,k.open_ 8⟩
theorem Blk.c8 {t0:TypeId}{w:World}{b:Nat}{x0 x1 x2 x3 x4 x5 x6 x7:Value}(k:Blk t0 w b #[x0,x1,x2,x3,x4,x5,x6,x7]):w.cell? ⟨b,0,none⟩=some x0∧w.cell? ⟨b,1,none⟩=some x1∧w.cell? ⟨b,2,none⟩=some x2∧w.cell? ⟨b,3,none⟩=some x3∧w.cell? ⟨b,4,none⟩=some x4∧w.cell? ⟨b,5,none⟩=some x5∧w.cell? ⟨b,6,none⟩=some x6∧w.cell? ⟨b,7,none⟩=some x7:=⟨k.cell 0 rfl,k.cell 1 rfl,k.cell 2 rfl,k.cell 3 rfl,k.cell 4 rfl,k.cell 5 rfl,k.cell 6 rfl,k.cell 7 rfl⟩
theorem run_alloc23 (w:World):(Instr.alloc 23 true (.tuple #[])).run Tryz.prog w=.ok (.pointer (some ⟨w.heap.size,0,none⟩)) (w.alloc (.cells #[.int .i64 0,.int .i64 0,.int .i64 0,.int .i64 0,.int .i64 0,.int .i64 0,.int .i64 0,.int .i64 0] 23)):=by go_simp
theorem run_alloc65 (w:World):(Instr.alloc 61 true (.tuple #[])).run Tryz.prog w=.ok (.pointer (some ⟨w.heap.size,0,none⟩)) (w.alloc (.cells #[.slice none 0 0,.slice none 0 0,.slice none 0 0,.slice none 0 0,.slice none 0 0,.slice none 0 0,.slice none 0 0,.slice none 0 0,.slice none 0 0] 61)):=by go_simp
theorem run_store23 {w:World}{b:Nat}(q:Blk 23 w b #[.int .i64 0,.int .i64 0,.int .i64 0,.int .i64 0,.int .i64 0,.int .i64 0,.int .i64 0,.int .i64 0])(d h l v u x t n:Int):∃ w',(Instr.storeAt 23 (.pointer (some ⟨b,0,none⟩)) (.agg #[.int .i64 d,.int .i64 h,.int .i64 l,.int .i64 v,.int .i64 u,.int .i64 x,.int .i64 t,.int .i64 n])).run Tryz.prog w=.ok () w'∧Blk 23 w' b #[.int .i64 d,.int .i64 h,.int .i64 l,.int .i64 v,.int .i64 u,.int .i64 x,.int .i64 t,.int .i64 n]∧Only b w w':=by
 obtain⟨c0,c1,c2,c3,c4,c5,c6,c7⟩:=q.c8
 obtain⟨o0,o1,o2,o3,o4,o5,o6,o7,-⟩:=q.o9
 obtain⟨W2,eW,q2,only,hz⟩:=set8 q (.int .i64 d) (.int .i64 h) (.int .i64 l) (.int .i64 v) (.int .i64 u) (.int .i64 x) (.int .i64 t) (.int .i64 n)
 exact⟨W2,by rw[←eW];go_simp,q2,only⟩
theorem run_store61 {w:World}{b:Nat}(q:Blk 61 w b #[.slice none 0 0,.slice none 0 0,.slice none 0 0,.slice none 0 0,.slice none 0 0,.slice none 0 0,.slice none 0 0,.slice none 0 0,.slice none 0 0])(y:Nat→SL):∃ w',(Instr.storeAt 61 (.pointer (some ⟨b,0,none⟩)) (.agg #[.slice (y 0).a (y 0).n (y 0).c,.slice (y 1).a (y 1).n (y 1).c,.slice (y 2).a (y 2).n (y 2).c,.slice (y 3).a (y 3).n (y 3).c,.slice (y 4).a (y 4).n (y 4).c,.slice (y 5).a (y 5).n (y 5).c,.slice (y 6).a (y 6).n (y 6).c,.slice (y 7).a (y 7).n (y 7).c,.slice (y 8).a (y 8).n (y 8).c])).run Tryz.prog w=.ok () w'∧Blk 61 w' b #[.slice (y 0).a (y 0).n (y 0).c,.slice (y 1).a (y 1).n (y 1).c,.slice (y 2).a (y 2).n (y 2).c,.slice (y 3).a (y 3).n (y 3).c,.slice (y 4).a (y 4).n (y 4).c,.slice (y 5).a (y 5).n (y 5).c,.slice (y 6).a (y 6).n (y 6).c,.slice (y 7).a (y 7).n (y 7).c,.slice (y 8).a (y 8).n (y 8).c]∧Only b w w':=by
 obtain⟨c0,c1,c2,c3,c4,c5,c6,c7,c8⟩:=q.c9
 obtain⟨o0,o1,o2,o3,o4,o5,o6,o7,o8⟩:=q.o9
 obtain⟨W2,eW,q2,only,hz⟩:=set9 q (.slice (y 0).a (y 0).n (y 0).c) (.slice (y 1).a (y 1).n (y 1).c) (.slice (y 2).a (y 2).n (y 2).c) (.slice (y 3).a (y 3).n (y 3).c) (.slice (y 4).a (y 4).n (y 4).c) (.slice (y 5).a (y 5).n (y 5).c) (.slice (y 6).a (y 6).n (y 6).c) (.slice (y 7).a (y 7).n (y 7).c) (.slice (y 8).a (y 8).n (y 8).c)
 exact⟨W2,by rw[←eW];go_simp,q2,only⟩
theorem run_load61 {w:World}{p:Addr}{y:Nat→SL}(h:∀ j,j<9→w.cell? (p.add j)=some (y j).v):(Instr.loadAt 61 (.pointer (some p))).run Tryz.prog w=.ok (.agg #[.slice (y 0).a (y 0).n (y 0).c,.slice (y 1).a (y 1).n (y 1).c,.slice (y 2).a (y 2).n (y 2).c,.slice (y 3).a (y 3).n (y 3).c,.slice (y 4).a (y 4).n (y 4).c,.slice (y 5).a (y 5).n (y 5).c,.slice (y 6).a (y 6).n (y 6).c,.slice (y 7).a (y 7).n (y 7).c,.slice (y 8).a (y 8).n (y 8).c]) w:=by
 have c0:w.cell? (p.add 0)=some (.slice (y 0).a (y 0).n (y 0).c):=h 0 (by omega)
 have c1:w.cell? (p.add 1)=some (.slice (y 1).a (y 1).n (y 1).c):=h 1 (by omega)
 have c2:w.cell? (p.add 2)=some (.slice (y 2).a (y 2).n (y 2).c):=h 2 (by omega)
 have c3:w.cell? (p.add 3)=some (.slice (y 3).a (y 3).n (y 3).c):=h 3 (by omega)
 have c4:w.cell? (p.add 4)=some (.slice (y 4).a (y 4).n (y 4).c):=h 4 (by omega)
 have c5:w.cell? (p.add 5)=some (.slice (y 5).a (y 5).n (y 5).c):=h 5 (by omega)
 have c6:w.cell? (p.add 6)=some (.slice (y 6).a (y 6).n (y 6).c):=h 6 (by omega)
 have c7:w.cell? (p.add 7)=some (.slice (y 7).a (y 7).n (y 7).c):=h 7 (by omega)
 have c8:w.cell? (p.add 8)=some (.slice (y 8).a (y 8).n (y 8).c):=h 8 (by omega)
 simp only[Addr.add_zero',Addr.add_succ'] at c0 c1 c2 c3 c4 c5 c6 c7 c8
 go_simp
theorem run_field27 (b f:Nat)(o:Nat)(hf:(f=0∧o=0)∨(f=1∧o=8)∨(f=2∧o=9)∨(f=3∧o=10)∨(f=4∧o=11))(w:World):(Instr.fieldAt 34 (.pointer (some ⟨b,0,none⟩)) f).run Tryz.prog w=.ok (.pointer (some ⟨b,o,none⟩)) w:=by
 rcases hf with⟨rfl,rfl⟩|⟨rfl,rfl⟩|⟨rfl,rfl⟩|⟨rfl,rfl⟩|⟨rfl,rfl⟩<;>go_simp
theorem run_load32 {w:World}{p:Addr}{a:Option Addr}{n c:Nat}(h:w.cell? p=some (.slice a n c)):(Instr.loadAt 32 (.pointer (some p))).run Tryz.prog w=.ok (.slice a n c) w:=by go_simp
theorem run_index25 {x:Addr}{n c k:Nat}(h:k<n)(w:World):(Instr.indexAt 32 (.slice (some x) n c) (.int .i64 k)).run Tryz.prog w=.ok (.pointer (some (x.add (k*9)))) w:=by
 have h':(k:Int)<(n:Int):=by omega
 go_simp
theorem run_cfg12 {w:World}{b:Nat}{d h l v u x t n:Int}{s0 s1 s2 s3:Value}(q:Blk 34 w b #[.int .i64 d,.int .i64 h,.int .i64 l,.int .i64 v,.int .i64 u,.int .i64 x,.int .i64 t,.int .i64 n,s0,s1,s2,s3]):(Instr.loadAt 23 (.pointer (some ⟨b,0,none⟩))).run Tryz.prog w=.ok (.agg #[.int .i64 d,.int .i64 h,.int .i64 l,.int .i64 v,.int .i64 u,.int .i64 x,.int .i64 t,.int .i64 n]) w:=by
 obtain⟨c0,c1,c2,c3,c4,c5,c6,c7,c8,c9,c10,c11⟩:=q.c12
 go_simp
theorem Blk.apart {t t':TypeId}{w:World}{b b':Nat}{cs cs':Array Value}(q:Blk t w b cs)(q':Blk t' w b' cs')(h:t≠t'):b≠b':=fun e=>by
 subst e
 have:=Option.some.inj ((show w.heap[b]? = _ from q).symm.trans (show w.heap[b]? = _ from q'))
 simp only[Obj.cells.injEq] at this
 exact h this.2.1
def widthZ (d h l v u x t n:Int):Int:=if okB d h l v u x t n then 2*d*l else 0
theorem width_bounds {d h l v u x t n:Int}(ok:okB d h l v u x t n=true):0≤2*d∧2*d≤16∧0≤2*d*l∧2*d*l≤32:=by
 have r:=right_of ok
 have d0:=r.d0;have d1:=r.d1;have l0:=r.l0;have l1:=r.l1
 have p:=mul_bounds (show 0≤2*d by omega) (show 2*d≤16 by omega) (show 0≤l by omega) l1
 exact⟨by omega,by omega,p.1,by omega⟩
theorem md_width (d h l v u x t n:Int)(w:World):Calls Tryz.prog 141 #[.agg #[.int .i64 d,.int .i64 h,.int .i64 l,.int .i64 v,.int .i64 u,.int .i64 x,.int .i64 t,.int .i64 n]] w fun e w'=>e=.returned (.int .i64 (widthZ d h l v u x t n))∧Below w.heap.size w w':=by
 have kc:=config_call d h l v u x t n
 have hnot:∀ (x:Bool) (w:World),(Op.unary .not (.bool x)).run Tryz.prog w=.ok (.bool (!x)) w:=fun _ _=>rfl
 have hb:=bNw (Below.refl w.heap.size w) (.cells #[.int .i64 d,.int .i64 h,.int .i64 l,.int .i64 v,.int .i64 u,.int .i64 x,.int .i64 t,.int .i64 n] 23)
 have q:=Blk.new 23 w #[.int .i64 d,.int .i64 h,.int .i64 l,.int .i64 v,.int .i64 u,.int .i64 x,.int .i64 t,.int .i64 n]
 unfold widthZ
 cases ok:okB d h l v u x t n with
 | false =>
  simp only[ok] at kc
  go_enter Tryz.func141,Tryz.ntmps141
  go_wp2_with (go_at_call 62;refine (kc _).mono ?_;rintro e W1 ⟨rfl,h1⟩;replace hb:=bTn hb h1)
  go_ret
  exact⟨rfl,hb⟩
 | true =>
  simp only[ok] at kc
  have wb:=width_bounds ok
  obtain⟨p0,p1,p2,p3⟩:=wb
  obtain⟨p,ep⟩:∃ p,2*d*l=p:=⟨_,rfl⟩
  rw[ep] at p2 p3
  have HQ:=hdn q
  clear q
  go_enter Tryz.func141,Tryz.ntmps141
  go_wp2_with (go_at_call 62;refine (kc _).mono ?_;rintro e W1 ⟨rfl,h1⟩;replace hb:=bTn hb h1;have q1:=HQ.out.kept h1;obtain⟨z0,z1,z2,z3,z4,z5,z6,z7⟩:=q1.c8;clear h1 q1)
  go_ret
  exact⟨rfl,hb⟩
theorem grafted_no (R S:Int)(La:SL)(hR:R=0)(w:World):Calls Tryz.prog 107 #[.agg #[.int .i64 R,.int .i64 S,.slice La.a La.n La.c]] w fun e w'=>e=.returned (.bool false)∧Below w.heap.size w w':=by
 have hb:=bNw (Below.refl w.heap.size w) (.cells #[.int .i64 R,.int .i64 S,.slice La.a La.n La.c] 37)
 subst hR
 go_enter Tryz.func107,Tryz.ntmps107
 go_wp2
 go_ret
 exact⟨rfl,hb⟩
theorem grafted_yes (R S:Int)(La:SL)(hR:R≠0)(w:World):Calls Tryz.prog 107 #[.agg #[.int .i64 R,.int .i64 S,.slice La.a La.n La.c]] w fun e w'=>e=.returned (.bool true)∧Below w.heap.size w w':=by
 have hb:=bNw (Below.refl w.heap.size w) (.cells #[.int .i64 R,.int .i64 S,.slice La.a La.n La.c] 37)
 have z:(R==0)=false:=by simp[hR]
 have z':(R != 0)=true:=by simp[hR]
 go_enter Tryz.func107,Tryz.ntmps107
 go_wp2
 go_ret
 exact⟨rfl,hb⟩
theorem mdfits_loop (a:Option Addr)(n c:Nat)(A:Nat→Option Addr)(C:Nat→Nat)(P:Nat→List Int)(cnt wd:Int)(w:World)(h:Grid w a n A C P)(hn:(n:Int)=cnt)(B:Bool)(yes:(∀ r,r<n→((P r).length:Int)=wd)→B=true)(no:∀ r,r<n→¬((P r).length:Int)=wd→B=false) :
  Calls Tryz.prog 140 #[.slice a n c,.int .i64 cnt,.int .i64 wd] w fun e w'=>e=.returned (.bool B)∧w'=w:=by
 subst hn
 have hm:=h.max
 go_enter Tryz.func140,Tryz.ntmps140
 go_wp2
 go_loopw [15] (fun i wr=>∃ k:Nat,k≤n∧i=.int .i64 k∧wr=w∧∀ r,r<k→((P r).length:Int)=wd) (fun i _=>n-(intOf i).toNat)
 case atStart=>exact⟨0,Nat.zero_le _,rfl,rfl,fun r h=>by omega⟩
 case round =>
  obtain⟨k,hk,rfl,hw,hs⟩:=hrel
  subst hw
  by_cases hlt:k<n
  ·obtain⟨x,rfl⟩:=h.some_ (by omega)
   have cx:=h.cell x rfl k hlt
   have Hs:Hid (∀ r,r<k→((P r).length:Int)=wd):=hs
   have nk:=no k hlt
   have hl:=(h.row k hlt).max
   clear hs h no
   obtain⟨g,eg⟩:∃ g,(P k).length=g:=⟨_,rfl⟩
   rw[eg] at cx nk hl
   have Eg:Hid ((P k).length=g):=eg
   clear eg
   by_cases e1:(g:Int)=wd
   ·subst e1
    clear nk
    go_wp2
    go_roundw
    case rel =>
     refine⟨k+1,by omega,by go_num,trivial,fun r hr=>?_⟩
     by_cases e:r=k
     ·subst e;rw[Eg.out]
     ·exact Hs.out r (by omega)
    case measure=>simp[intOf];omega
   ·have z1:((g:Int)==wd)=false:=by simp[e1]
    have z2:((g:Int) != wd)=true:=by simp[e1]
    have hB:=nk e1
    clear nk
    go_wp2
    go_ret
    exact⟨by rw[hB];rfl,rfl⟩
  ·have e:k=n:=by omega
   subst e
   have hB:=yes hs
   clear hs no yes
   go_wp2
   go_ret
   exact⟨by rw[hB];rfl,rfl⟩
end Go.Proofs.YtbkjhfmehemgpaaGreat

/- Texts put together. -/
import Derived.Test.YthliomlmhfjhnaaGreatRows
import Derived.Test.YthliomlmhfjhnaaGreatZf11
import Derived.Test.YthliomlmhfjhnaaGreatZf2
import Derived.Test.YthliomlmhfjhnaaGreatZf4
namespace Go.Proofs.YthliomlmhfjhnaaGreat
set_option maxRecDepth 20000
set_option maxHeartbeats 16000000
open Go.ChangeShapes Go.WideShapes Go.ChangeAt Go.RowKit
set_option linter.unusedVariables false
set_option linter.unusedSimpArgs false
section
theorem Blk.c12 {t0:TypeId}{w:World}{b:Nat}{x0 x1 x2 x3 x4 x5 x6 x7 x8 x9 x10 x11:Value}(k:Blk t0 w b #[x0,x1,x2,x3,x4,x5,x6,x7,x8,x9,x10,x11]):w.cell? ⟨b,0,none⟩=some x0∧w.cell? ⟨b,1,none⟩=some x1∧w.cell? ⟨b,2,none⟩=some x2∧w.cell? ⟨b,3,none⟩=some x3∧w.cell? ⟨b,4,none⟩=some x4∧w.cell? ⟨b,5,none⟩=some x5∧w.cell? ⟨b,6,none⟩=some x6∧w.cell? ⟨b,7,none⟩=some x7∧w.cell? ⟨b,8,none⟩=some x8∧w.cell? ⟨b,9,none⟩=some x9∧w.cell? ⟨b,10,none⟩=some x10∧w.cell? ⟨b,11,none⟩=some x11 :=
 ⟨k.cell 0 rfl,k.cell 1 rfl,k.cell 2 rfl,k.cell 3 rfl,k.cell 4 rfl,k.cell 5 rfl,k.cell 6 rfl,k.cell 7 rfl,k.cell 8 rfl,k.cell 9 rfl,k.cell 10 rfl,k.cell 11 rfl⟩
theorem Blk.o12 {t0:TypeId}{w:World}{b:Nat}{cs:Array Value}(k:Blk t0 w b cs):w.frozen? ⟨b,0,none⟩=false∧w.frozen? ⟨b,1,none⟩=false∧w.frozen? ⟨b,2,none⟩=false∧w.frozen? ⟨b,3,none⟩=false∧w.frozen? ⟨b,4,none⟩=false∧w.frozen? ⟨b,5,none⟩=false∧w.frozen? ⟨b,6,none⟩=false∧w.frozen? ⟨b,7,none⟩=false∧w.frozen? ⟨b,8,none⟩=false∧w.frozen? ⟨b,9,none⟩=false∧w.frozen? ⟨b,10,none⟩=false∧w.frozen? ⟨b,11,none⟩=false :=
 ⟨k.open_ 0,k.open_ 1,k.open_ 2,k.open_ 3,k.open_ 4,k.open_ 5,k.open_ 6,k.open_ 7,k.open_ 8,k.open_ 9,k.open_ 10,k.open_ 11⟩
structure SL where
 a:Option Addr
 n:Nat
 c:Nat
def SL.nought:SL:=⟨none,0,0⟩
def SL.v (s:SL):Value:=.slice s.a s.n s.c
structure IsS (w:World) (s:SL) (zs:List Int):Prop where
 reads:Reads .i8 w s.a s.n zs
 nil:s.a=none→s.c=0
 cap:s.n≤s.c
theorem IsS.below {w w':World}{s:SL}{zs:List Int}(h:IsS w s zs)(hb:Below w.heap.size w w'):IsS w' s zs:=⟨h.reads.below hb,h.nil,h.cap⟩
theorem IsS.none_ (w:World):IsS w ⟨none,0,0⟩ []:=⟨Reads.nil _ _,fun _=>rfl,Nat.le_refl _⟩
structure IsG (w:World) (s:SL) (k:Nat) (R:Nat→SL) (Z:Nat→List Int):Prop where
 len:s.n=k
 some_:0<k→∃ x,s.a=some x
 nil:s.a=none→s.c=0
 cap:s.n≤s.c
 cell:∀ x,s.a=some x→∀ j,j<k→w.cell? (x.add j)=some (R j).v
 row:∀ j,j<k→IsS w (R j) (Z j)
theorem IsG.below {w w':World}{s:SL}{k:Nat}{R:Nat→SL}{Z:Nat→List Int}(h:IsG w s k R Z)(hb:Below w.heap.size w w'):IsG w' s k R Z :=
 ⟨h.len,h.some_,h.nil,h.cap,fun x hx j hj=>(hb.cell (World.block_lt_of_cell? w _ (h.cell x hx j hj))).trans (h.cell x hx j hj),fun j hj=>(h.row j hj).below hb⟩
structure ModV where
 e:List Int
 nm:List Int
 o:List Int
 ln:Nat
 f:Nat→Nat→List Int
 un:Nat→Nat
 dn:Nat→Nat
 u:Nat→Nat→List Int
 d:Nat→Nat→List Int
structure IsY (w:World) (Y:Nat→SL) (U D:Nat→SL) (f:Nat→List Int) (un dn:Nat) (u d:Nat→List Int):Prop where
 f:∀ j,j<7→IsS w (Y j) (f j)
 u:IsG w (Y 7) un U u
 d:IsG w (Y 8) dn D d
theorem IsY.below {w w':World}{Y U D:Nat→SL}{f:Nat→List Int}{un dn:Nat}{u d:Nat→List Int}(h:IsY w Y U D f un dn u d)(hb:Below w.heap.size w w'):IsY w' Y U D f un dn u d :=
 ⟨fun j hj=>(h.f j hj).below hb,h.u.below hb,h.d.below hb⟩
structure ModAt (w:World) (E L N O:SL) (Y U D:Nat→Nat→SL) (m:ModV):Prop where
 e:IsS w E m.e
 nm:IsS w N m.nm
 o:IsS w O m.o
 len:L.n=m.ln
 some_:0<m.ln→∃ x,L.a=some x
 nil:L.a=none→L.c=0
 cap:L.n≤L.c
 cell:∀ x,L.a=some x→∀ i,i<m.ln→∀ j,j<9→w.cell? ((x.add (i*9)).add j)=some (Y i j).v
 lay:∀ i,i<m.ln→IsY w (Y i) (U i) (D i) (m.f i) (m.un i) (m.dn i) (m.u i) (m.d i)
theorem ModAt.below {w w':World}{E L N O:SL}{Y U D:Nat→Nat→SL}{m:ModV}(h:ModAt w E L N O Y U D m)(hb:Below w.heap.size w w'):ModAt w' E L N O Y U D m :=
 ⟨h.e.below hb,h.nm.below hb,h.o.below hb,h.len,h.some_,h.nil,h.cap,fun x hx i hi j hj=>(hb.cell (World.block_lt_of_cell? w _ (h.cell x hx i hi j hj))).trans (h.cell x hx i hi j hj),fun i hi=>(h.lay i hi).below hb⟩
def NewM (base:Nat)(w:World)(E L N O:SL)(Y U D:Nat→Nat→SL)(m:ModV):Prop :=
 ∀ w',(∀ p v,w.cell? p=some v→base≤p.block→w'.cell? p=some v)→ModAt w' E L N O Y U D m
theorem NewM.below {base:Nat}{w w':World}{E L N O:SL}{Y U D:Nat→Nat→SL}{m:ModV}(h:NewM base w E L N O Y U D m)(hb:Below w.heap.size w w'):NewM base w' E L N O Y U D m :=
 fun w'' hc=>h w'' fun p v hp hle=>hc p v ((hb.cell (World.block_lt_of_cell? w _ hp)).trans hp) hle
def noV:ModV:=⟨[],[],[],0,fun _ _=>[],fun _=>0,fun _=>0,fun _ _=>[],fun _ _=>[]⟩
abbrev noS:SL:=⟨none,0,0⟩
theorem NewM.none_ (base:Nat)(w:World)(Y U D:Nat→Nat→SL):NewM base w ⟨none,0,0⟩ ⟨none,0,0⟩ ⟨none,0,0⟩ ⟨none,0,0⟩ Y U D noV:=fun w' _ =>
 ⟨IsS.none_ w',IsS.none_ w',IsS.none_ w',rfl,(fun h=>by cases h),fun _=>rfl,Nat.le_refl _,(fun x hx=>by cases hx),(fun i hi=>by cases hi)⟩
def pl (ne:Nat):Nat:=7+2*ne
def ofSeq (ln ne:Nat)(S:Nat→List Int):ModV :=
 ⟨S 0,S (1+ln*pl ne),S (1+ln*pl ne+1),ln,fun i j=>S (1+i*pl ne+j),fun _=>ne,fun _=>ne,fun i k=>S (1+i*pl ne+7+2*k),fun i k=>S (1+i*pl ne+7+2*k+1)⟩
def preC (D DD XD r:Nat):Nat:=if r=0∨r=5 then D else if r=6 then XD else DD
def planC (ln ne D DD XD UD VD k:Nat):Nat :=
 if k=0 then VD else if (k-1)/pl ne<ln then (if (k-1)%pl ne<7 then preC D DD XD ((k-1)%pl ne) else UD) else if (k-1)%pl ne=0 then D else VD
theorem pl_div (ne i r:Nat)(h:r<pl ne):(1+i*pl ne+r-1)/pl ne=i∧(1+i*pl ne+r-1)%pl ne=r:=by
 rw[show 1+i*pl ne+r-1=r+pl ne*i by rw[Nat.mul_comm];omega]
 have p:0<pl ne:=by omega
 exact⟨by rw[Nat.add_mul_div_left _ _ p,Nat.div_eq_of_lt h];omega,by rw[Nat.add_mul_mod_self_left,Nat.mod_eq_of_lt h]⟩
theorem plan_cases (ln ne k:Nat)(h:k<1+ln*pl ne+2) :
  k=0∨(∃ i r,i<ln∧r<7∧k=1+i*pl ne+r)∨(∃ i j,i<ln∧j<ne∧(k=1+i*pl ne+7+2*j∨k=1+i*pl ne+7+2*j+1))∨k=1+ln*pl ne∨k=1+ln*pl ne+1:=by
 by_cases k0:k=0
 ·exact .inl k0
 have p:0<pl ne:=by unfold pl;omega
 have e:=Nat.div_add_mod (k-1) (pl ne)
 have m:=Nat.mod_lt (k-1) p
 rw[Nat.mul_comm] at e
 obtain⟨i,ei⟩:∃ i,(k-1)/pl ne=i:=⟨_,rfl⟩
 obtain⟨r,er⟩:∃ r,(k-1)%pl ne=r:=⟨_,rfl⟩
 rw[ei,er] at e
 rw[er] at m
 by_cases hi:i<ln
 ·by_cases hr:r<7
  ·exact .inr (.inl ⟨i,r,hi,hr,by omega⟩)
  ·refine .inr (.inr (.inl ⟨i,(r-7)/2,hi,?_,?_⟩))
   ·unfold pl at m;omega
   ·omega
 ·have:ln*pl ne≤i*pl ne:=Nat.mul_le_mul_right _ (by omega)
  omega
variable {ln ne D DD XD UD VD:Nat}
theorem planC_list (i r:Nat)(hi:i<ln)(hr:r<7):planC ln ne D DD XD UD VD (1+i*pl ne+r)=preC D DD XD r:=by
 obtain⟨e1,e2⟩:=pl_div ne i r (by unfold pl;omega)
 unfold planC
 rw[e1,e2,if_neg (by omega),if_pos hi,if_pos hr]
theorem planC_up (i j:Nat)(hi:i<ln)(hj:j<ne):planC ln ne D DD XD UD VD (1+i*pl ne+7+2*j)=UD:=by
 obtain⟨e1,e2⟩:=pl_div ne i (7+2*j) (by unfold pl;omega)
 rw[←Nat.add_assoc] at e1 e2
 unfold planC
 rw[e1,e2,if_neg (by omega),if_pos hi,if_neg (by omega)]
theorem planC_down (i j:Nat)(hi:i<ln)(hj:j<ne):planC ln ne D DD XD UD VD (1+i*pl ne+7+2*j+1)=UD:=by
 obtain⟨e1,e2⟩:=pl_div ne i (7+2*j+1) (by unfold pl;omega)
 rw[←Nat.add_assoc,←Nat.add_assoc] at e1 e2
 unfold planC
 rw[e1,e2,if_neg (by omega),if_pos hi,if_neg (by omega)]
theorem planC_norm:planC ln ne D DD XD UD VD (1+ln*pl ne)=D:=by
 obtain⟨e1,e2⟩:=pl_div ne ln 0 (by unfold pl;omega)
 rw[Nat.add_zero] at e1 e2
 unfold planC
 rw[e1,e2,if_neg (by omega),if_neg (by omega),if_pos rfl]
theorem planC_out:planC ln ne D DD XD UD VD (1+ln*pl ne+1)=VD:=by
 obtain⟨e1,e2⟩:=pl_div ne ln 1 (by unfold pl;omega)
 unfold planC
 rw[e1,e2,if_neg (by omega),if_neg (by omega),if_neg (by omega)]
end
section
theorem run_field (tb f:Nat)(hf:f<9)(w:World):(Instr.fieldAt 65 (.pointer (some ⟨tb,0,none⟩)) f).run Tryz.prog w=.ok (.pointer (some ⟨tb,f,none⟩)) w:=by
 rcases (show f=0∨f=1∨f=2∨f=3∨f=4∨f=5∨f=6∨f=7∨f=8 by omega) with rfl|rfl|rfl|rfl|rfl|rfl|rfl|rfl|rfl<;>go_simp
theorem run_build0 (w:World):(Instr.buildSlice 24 0 #[]).run Tryz.prog w=.ok (.slice (some ⟨w.heap.size,0,none⟩) 0 0) (w.alloc (.cells #[] 73)):=by
 go_simp
def OpAt (ops:Array Oper)(i:Nat)(dst:Option Tmp)(op:Op)(deps:List Nat):Prop :=
 ∃ o,ops[i]? = some o∧o.dst=dst∧o.op=op∧o.guard=none∧deps.all (fun d=>o.after.any fun e=>e.on==d && Region.binds .any e)=true
def NewS (base:Nat)(w:World)(s:SL)(zs:List Int):Prop:=∀ w',(∀ p v,w.cell? p=some v→base≤p.block→w'.cell? p=some v)→IsS w' s zs
theorem i73':∃ i,Tryz.prog.info? 73=some i∧i.zero=some (.int .i8 0)∧i.size=1∧i.bytes=1:=by
 have:=info73
 cases h:Tryz.prog.info? 73 with
 | none=>rw[h] at this;cases this
 | some i=>rw[h] at this;simp at this;exact⟨i,rfl,this.1,this.2.1,this.2.2⟩
variable {N:Nat}{D:Nat→Option Nat}{a0:Act}{R:(Nat→Bool)→Act→World→Prop}{F:(Nat→Bool)→Nat→Value→World→Prop}{l:Nat→Bool}{a:Act}{w:World}
theorem run_copy_own (w:World)(g:Nat)(B:Nat)(ty:TypeId)(s:SL)(zs:List Int)(hs:IsS w s zs)(hl:zs.length≤140737488355328)(ho:w.ownsRow B 73 1 (.slice (some ⟨g,0,none⟩) 0 0) 0 [])(hB:B≤w.heap.size):∃ s' w',(Builtin.append_ #[24,24] ty #[.slice (some ⟨g,0,none⟩) 0 0,.slice s.a s.n s.c]).run Tryz.prog w=.ok (SL.v s') w'∧s'.n=s.n∧Below w.heap.size w w'∧w'.ownsRow B 73 1 s'.v s'.n (zs.map (Value.int .i8)):=by
 obtain⟨i0,hi,hz0,hz1,hz2⟩:=i73'
 have hlen:=hs.reads.len
 by_cases h0:s.n=0
 ·obtain rfl:zs=[]:=List.eq_nil_of_length_eq_zero (by omega)
  refine⟨⟨some ⟨g,0,none⟩,0,0⟩,w,?_,h0.symm,Below.refl _ _,ho⟩
  rw[h0]
  cases hsa:s.a with
  | none=>simp[Builtin.append_,run_underlying Tryz.underlying24,sizeOf,typeInfo,hi,Builtin.lenOf,Builtin.firstCells,storeCells,SL.v]
  | some x=>simp[Builtin.append_,run_underlying Tryz.underlying24,sizeOf,typeInfo,hi,Builtin.lenOf,Builtin.firstCells,storeCells,loadCells,loadCellsFrom,SL.v]
 ·obtain⟨x,hx⟩:=hs.reads.some_ (by omega)
  have hx':=hs.reads
  rw[hx] at hx' ⊢
  obtain⟨v',w',hr,ho',hg⟩:=run_append_arg_grows (P:=Tryz.prog) (w:=w) 24 ty 73 i0 (.int .i8 0) 1 1 Tryz.underlying24 hi hz0 hz1 hz2 rfl (by decide) ⟨g,0,none⟩ 0 0 [] rfl (fun j u h=>by cases h) x s.n s.c (zs.map (Value.int .i8)) (by rw[List.length_map];omega)
   (fun j u hu=>by
    have hj:j<s.n:=by
     have:=(List.getElem?_eq_some_iff.1 hu).1
     rw[List.length_map] at this
     omega
    rw[hx'.cell x rfl j hj,←hu]
    simp[hlen,hj]) (by omega) (by unfold maxLen;omega) (by omega)
  simp only[Nat.zero_add,List.nil_append] at ho'
  obtain⟨a',c',ev,hre⟩:=own_reads (k:=.i8) ho' hlen hx'.wf_mem (fun j hj=>copy_at .i8 zs j (by omega))
  have hb:Below w.heap.size w w':=(Below.refl w.heap.size w).grown hg (Nat.le_refl _) (fun g h=>by cases h)
  refine⟨⟨a',s.n,c'⟩,w',by rw[hr,ev];rfl,rfl,hb,?_⟩
  rw[ev] at ho'
  refine⟨ho'.1,?_⟩
  rcases ho'.2 with h2|⟨g,cap,cur,hv,hg,r⟩
  ·exact .inl h2
  ·exact .inr ⟨g,cap,cur,hv,by omega,r⟩
end
section
theorem Blk.c9 {t0:TypeId}{w:World}{b:Nat}{x0 x1 x2 x3 x4 x5 x6 x7 x8:Value}(k:Blk t0 w b #[x0,x1,x2,x3,x4,x5,x6,x7,x8]):w.cell? ⟨b,0,none⟩=some x0∧w.cell? ⟨b,1,none⟩=some x1∧w.cell? ⟨b,2,none⟩=some x2∧w.cell? ⟨b,3,none⟩=some x3∧w.cell? ⟨b,4,none⟩=some x4∧w.cell? ⟨b,5,none⟩=some x5∧w.cell? ⟨b,6,none⟩=some x6∧w.cell? ⟨b,7,none⟩=some x7∧w.cell? ⟨b,8,none⟩=some x8 :=
 ⟨k.cell 0 rfl,k.cell 1 rfl,k.cell 2 rfl,k.cell 3 rfl,k.cell 4 rfl,k.cell 5 rfl,k.cell 6 rfl,k.cell 7 rfl,k.cell 8 rfl⟩
end
section
theorem set8 {t:TypeId}{W:World}{b:Nat}{x0 x1 x2 x3 x4 x5 x6 x7:Value}(h:Blk t W b #[x0,x1,x2,x3,x4,x5,x6,x7])(v0 v1 v2 v3 v4 v5 v6 v7:Value) :
  ∃ W',((((((((W.setCell ⟨b,0,none⟩ v0).setCell ⟨b,1,none⟩ v1).setCell ⟨b,2,none⟩ v2).setCell ⟨b,3,none⟩ v3).setCell ⟨b,4,none⟩ v4).setCell ⟨b,5,none⟩ v5).setCell ⟨b,6,none⟩ v6).setCell ⟨b,7,none⟩ v7)=W'∧Blk t W' b #[v0,v1,v2,v3,v4,v5,v6,v7]∧Only b W W'∧W'.heap.size=W.heap.size:=by
 have z0:W.heap.size=W.heap.size:=rfl
 have s1:Blk t (W.setCell ⟨b,0,none⟩ v0) b #[v0,x1,x2,x3,x4,x5,x6,x7]:=h.set 0 v0
 have n1:=(Only.set b 0 W v0)
 have z1:(W.setCell ⟨b,0,none⟩ v0).heap.size=W.heap.size:=(by simp[World.setCell]:_=W.heap.size).trans z0
 obtain⟨W1,e1⟩:∃ W1,W.setCell ⟨b,0,none⟩ v0=W1:=⟨_,rfl⟩
 rw[e1] at s1 n1 z1 ⊢
 have s2:Blk t (W1.setCell ⟨b,1,none⟩ v1) b #[v0,v1,x2,x3,x4,x5,x6,x7]:=s1.set 1 v1
 have n2:=n1.trans (Only.set b 1 W1 v1)
 have z2:(W1.setCell ⟨b,1,none⟩ v1).heap.size=W.heap.size:=(by simp[World.setCell]:_=W1.heap.size).trans z1
 obtain⟨W2,e2⟩:∃ W2,W1.setCell ⟨b,1,none⟩ v1=W2:=⟨_,rfl⟩
 rw[e2] at s2 n2 z2 ⊢
 have s3:Blk t (W2.setCell ⟨b,2,none⟩ v2) b #[v0,v1,v2,x3,x4,x5,x6,x7]:=s2.set 2 v2
 have n3:=n2.trans (Only.set b 2 W2 v2)
 have z3:(W2.setCell ⟨b,2,none⟩ v2).heap.size=W.heap.size:=(by simp[World.setCell]:_=W2.heap.size).trans z2
 obtain⟨W3,e3⟩:∃ W3,W2.setCell ⟨b,2,none⟩ v2=W3:=⟨_,rfl⟩
 rw[e3] at s3 n3 z3 ⊢
 have s4:Blk t (W3.setCell ⟨b,3,none⟩ v3) b #[v0,v1,v2,v3,x4,x5,x6,x7]:=s3.set 3 v3
 have n4:=n3.trans (Only.set b 3 W3 v3)
 have z4:(W3.setCell ⟨b,3,none⟩ v3).heap.size=W.heap.size:=(by simp[World.setCell]:_=W3.heap.size).trans z3
 obtain⟨W4,e4⟩:∃ W4,W3.setCell ⟨b,3,none⟩ v3=W4:=⟨_,rfl⟩
 rw[e4] at s4 n4 z4 ⊢
 have s5:Blk t (W4.setCell ⟨b,4,none⟩ v4) b #[v0,v1,v2,v3,v4,x5,x6,x7]:=s4.set 4 v4
 have n5:=n4.trans (Only.set b 4 W4 v4)
 have z5:(W4.setCell ⟨b,4,none⟩ v4).heap.size=W.heap.size:=(by simp[World.setCell]:_=W4.heap.size).trans z4
 obtain⟨W5,e5⟩:∃ W5,W4.setCell ⟨b,4,none⟩ v4=W5:=⟨_,rfl⟩
 rw[e5] at s5 n5 z5 ⊢
 have s6:Blk t (W5.setCell ⟨b,5,none⟩ v5) b #[v0,v1,v2,v3,v4,v5,x6,x7]:=s5.set 5 v5
 have n6:=n5.trans (Only.set b 5 W5 v5)
 have z6:(W5.setCell ⟨b,5,none⟩ v5).heap.size=W.heap.size:=(by simp[World.setCell]:_=W5.heap.size).trans z5
 obtain⟨W6,e6⟩:∃ W6,W5.setCell ⟨b,5,none⟩ v5=W6:=⟨_,rfl⟩
 rw[e6] at s6 n6 z6 ⊢
 have s7:Blk t (W6.setCell ⟨b,6,none⟩ v6) b #[v0,v1,v2,v3,v4,v5,v6,x7]:=s6.set 6 v6
 have n7:=n6.trans (Only.set b 6 W6 v6)
 have z7:(W6.setCell ⟨b,6,none⟩ v6).heap.size=W.heap.size:=(by simp[World.setCell]:_=W6.heap.size).trans z6
 obtain⟨W7,e7⟩:∃ W7,W6.setCell ⟨b,6,none⟩ v6=W7:=⟨_,rfl⟩
 rw[e7] at s7 n7 z7 ⊢
 have s8:Blk t (W7.setCell ⟨b,7,none⟩ v7) b #[v0,v1,v2,v3,v4,v5,v6,v7]:=s7.set 7 v7
 have n8:=n7.trans (Only.set b 7 W7 v7)
 have z8:(W7.setCell ⟨b,7,none⟩ v7).heap.size=W.heap.size:=(by simp[World.setCell]:_=W7.heap.size).trans z7
 obtain⟨W8,e8⟩:∃ W8,W7.setCell ⟨b,7,none⟩ v7=W8:=⟨_,rfl⟩
 rw[e8] at s8 n8 z8 ⊢
 exact⟨_,rfl,s8,n8,z8⟩
theorem set9 {t:TypeId}{W:World}{b:Nat}{x0 x1 x2 x3 x4 x5 x6 x7 x8:Value}(h:Blk t W b #[x0,x1,x2,x3,x4,x5,x6,x7,x8])(v0 v1 v2 v3 v4 v5 v6 v7 v8:Value) :
  ∃ W',(((((((((W.setCell ⟨b,0,none⟩ v0).setCell ⟨b,1,none⟩ v1).setCell ⟨b,2,none⟩ v2).setCell ⟨b,3,none⟩ v3).setCell ⟨b,4,none⟩ v4).setCell ⟨b,5,none⟩ v5).setCell ⟨b,6,none⟩ v6).setCell ⟨b,7,none⟩ v7).setCell ⟨b,8,none⟩ v8)=W'∧Blk t W' b #[v0,v1,v2,v3,v4,v5,v6,v7,v8]∧Only b W W'∧W'.heap.size=W.heap.size:=by
 have z0:W.heap.size=W.heap.size:=rfl
 have s1:Blk t (W.setCell ⟨b,0,none⟩ v0) b #[v0,x1,x2,x3,x4,x5,x6,x7,x8]:=h.set 0 v0
 have n1:=(Only.set b 0 W v0)
 have z1:(W.setCell ⟨b,0,none⟩ v0).heap.size=W.heap.size:=(by simp[World.setCell]:_=W.heap.size).trans z0
 obtain⟨W1,e1⟩:∃ W1,W.setCell ⟨b,0,none⟩ v0=W1:=⟨_,rfl⟩
 rw[e1] at s1 n1 z1 ⊢
 have s2:Blk t (W1.setCell ⟨b,1,none⟩ v1) b #[v0,v1,x2,x3,x4,x5,x6,x7,x8]:=s1.set 1 v1
 have n2:=n1.trans (Only.set b 1 W1 v1)
 have z2:(W1.setCell ⟨b,1,none⟩ v1).heap.size=W.heap.size:=(by simp[World.setCell]:_=W1.heap.size).trans z1
 obtain⟨W2,e2⟩:∃ W2,W1.setCell ⟨b,1,none⟩ v1=W2:=⟨_,rfl⟩
 rw[e2] at s2 n2 z2 ⊢
 have s3:Blk t (W2.setCell ⟨b,2,none⟩ v2) b #[v0,v1,v2,x3,x4,x5,x6,x7,x8]:=s2.set 2 v2
 have n3:=n2.trans (Only.set b 2 W2 v2)
 have z3:(W2.setCell ⟨b,2,none⟩ v2).heap.size=W.heap.size:=(by simp[World.setCell]:_=W2.heap.size).trans z2
 obtain⟨W3,e3⟩:∃ W3,W2.setCell ⟨b,2,none⟩ v2=W3:=⟨_,rfl⟩
 rw[e3] at s3 n3 z3 ⊢
 have s4:Blk t (W3.setCell ⟨b,3,none⟩ v3) b #[v0,v1,v2,v3,x4,x5,x6,x7,x8]:=s3.set 3 v3
 have n4:=n3.trans (Only.set b 3 W3 v3)
 have z4:(W3.setCell ⟨b,3,none⟩ v3).heap.size=W.heap.size:=(by simp[World.setCell]:_=W3.heap.size).trans z3
 obtain⟨W4,e4⟩:∃ W4,W3.setCell ⟨b,3,none⟩ v3=W4:=⟨_,rfl⟩
 rw[e4] at s4 n4 z4 ⊢
 have s5:Blk t (W4.setCell ⟨b,4,none⟩ v4) b #[v0,v1,v2,v3,v4,x5,x6,x7,x8]:=s4.set 4 v4
 have n5:=n4.trans (Only.set b 4 W4 v4)
 have z5:(W4.setCell ⟨b,4,none⟩ v4).heap.size=W.heap.size:=(by simp[World.setCell]:_=W4.heap.size).trans z4
 obtain⟨W5,e5⟩:∃ W5,W4.setCell ⟨b,4,none⟩ v4=W5:=⟨_,rfl⟩
 rw[e5] at s5 n5 z5 ⊢
 have s6:Blk t (W5.setCell ⟨b,5,none⟩ v5) b #[v0,v1,v2,v3,v4,v5,x6,x7,x8]:=s5.set 5 v5
 have n6:=n5.trans (Only.set b 5 W5 v5)
 have z6:(W5.setCell ⟨b,5,none⟩ v5).heap.size=W.heap.size:=(by simp[World.setCell]:_=W5.heap.size).trans z5
 obtain⟨W6,e6⟩:∃ W6,W5.setCell ⟨b,5,none⟩ v5=W6:=⟨_,rfl⟩
 rw[e6] at s6 n6 z6 ⊢
 have s7:Blk t (W6.setCell ⟨b,6,none⟩ v6) b #[v0,v1,v2,v3,v4,v5,v6,x7,x8]:=s6.set 6 v6
 have n7:=n6.trans (Only.set b 6 W6 v6)
 have z7:(W6.setCell ⟨b,6,none⟩ v6).heap.size=W.heap.size:=(by simp[World.setCell]:_=W6.heap.size).trans z6
 obtain⟨W7,e7⟩:∃ W7,W6.setCell ⟨b,6,none⟩ v6=W7:=⟨_,rfl⟩
 rw[e7] at s7 n7 z7 ⊢
 have s8:Blk t (W7.setCell ⟨b,7,none⟩ v7) b #[v0,v1,v2,v3,v4,v5,v6,v7,x8]:=s7.set 7 v7
 have n8:=n7.trans (Only.set b 7 W7 v7)
 have z8:(W7.setCell ⟨b,7,none⟩ v7).heap.size=W.heap.size:=(by simp[World.setCell]:_=W7.heap.size).trans z7
 obtain⟨W8,e8⟩:∃ W8,W7.setCell ⟨b,7,none⟩ v7=W8:=⟨_,rfl⟩
 rw[e8] at s8 n8 z8 ⊢
 have s9:Blk t (W8.setCell ⟨b,8,none⟩ v8) b #[v0,v1,v2,v3,v4,v5,v6,v7,v8]:=s8.set 8 v8
 have n9:=n8.trans (Only.set b 8 W8 v8)
 have z9:(W8.setCell ⟨b,8,none⟩ v8).heap.size=W.heap.size:=(by simp[World.setCell]:_=W8.heap.size).trans z8
 obtain⟨W9,e9⟩:∃ W9,W8.setCell ⟨b,8,none⟩ v8=W9:=⟨_,rfl⟩
 rw[e9] at s9 n9 z9 ⊢
 exact⟨_,rfl,s9,n9,z9⟩
theorem Blk.o9 {t0:TypeId}{w:World}{b:Nat}{cs:Array Value}(k:Blk t0 w b cs):w.frozen? ⟨b,0,none⟩=false∧w.frozen? ⟨b,1,none⟩=false∧w.frozen? ⟨b,2,none⟩=false∧w.frozen? ⟨b,3,none⟩=false∧w.frozen? ⟨b,4,none⟩=false∧w.frozen? ⟨b,5,none⟩=false∧w.frozen? ⟨b,6,none⟩=false∧w.frozen? ⟨b,7,none⟩=false∧w.frozen? ⟨b,8,none⟩=false:=⟨k.open_ 0,k.open_ 1,k.open_ 2,k.open_ 3,k.open_ 4,k.open_ 5,k.open_ 6,k.open_ 7,k.open_ 8⟩
theorem Blk.c8 {t0:TypeId}{w:World}{b:Nat}{x0 x1 x2 x3 x4 x5 x6 x7:Value}(k:Blk t0 w b #[x0,x1,x2,x3,x4,x5,x6,x7]):w.cell? ⟨b,0,none⟩=some x0∧w.cell? ⟨b,1,none⟩=some x1∧w.cell? ⟨b,2,none⟩=some x2∧w.cell? ⟨b,3,none⟩=some x3∧w.cell? ⟨b,4,none⟩=some x4∧w.cell? ⟨b,5,none⟩=some x5∧w.cell? ⟨b,6,none⟩=some x6∧w.cell? ⟨b,7,none⟩=some x7:=⟨k.cell 0 rfl,k.cell 1 rfl,k.cell 2 rfl,k.cell 3 rfl,k.cell 4 rfl,k.cell 5 rfl,k.cell 6 rfl,k.cell 7 rfl⟩
theorem run_alloc23 (w:World):(Instr.alloc 23 true (.tuple #[])).run Tryz.prog w=.ok (.pointer (some ⟨w.heap.size,0,none⟩)) (w.alloc (.cells #[.int .i64 0,.int .i64 0,.int .i64 0,.int .i64 0,.int .i64 0,.int .i64 0,.int .i64 0,.int .i64 0] 23)):=by go_simp
theorem run_alloc65 (w:World):(Instr.alloc 65 true (.tuple #[])).run Tryz.prog w=.ok (.pointer (some ⟨w.heap.size,0,none⟩)) (w.alloc (.cells #[.slice none 0 0,.slice none 0 0,.slice none 0 0,.slice none 0 0,.slice none 0 0,.slice none 0 0,.slice none 0 0,.slice none 0 0,.slice none 0 0] 65)):=by go_simp
theorem run_store23 {w:World}{b:Nat}(q:Blk 23 w b #[.int .i64 0,.int .i64 0,.int .i64 0,.int .i64 0,.int .i64 0,.int .i64 0,.int .i64 0,.int .i64 0])(d h l v u x t n:Int):∃ w',(Instr.storeAt 23 (.pointer (some ⟨b,0,none⟩)) (.agg #[.int .i64 d,.int .i64 h,.int .i64 l,.int .i64 v,.int .i64 u,.int .i64 x,.int .i64 t,.int .i64 n])).run Tryz.prog w=.ok () w'∧Blk 23 w' b #[.int .i64 d,.int .i64 h,.int .i64 l,.int .i64 v,.int .i64 u,.int .i64 x,.int .i64 t,.int .i64 n]∧Only b w w':=by
 obtain⟨c0,c1,c2,c3,c4,c5,c6,c7⟩:=q.c8
 obtain⟨o0,o1,o2,o3,o4,o5,o6,o7,-⟩:=q.o9
 obtain⟨W2,eW,q2,only,hz⟩:=set8 q (.int .i64 d) (.int .i64 h) (.int .i64 l) (.int .i64 v) (.int .i64 u) (.int .i64 x) (.int .i64 t) (.int .i64 n)
 exact⟨W2,by rw[←eW];go_simp,q2,only⟩
theorem run_store65 {w:World}{b:Nat}(q:Blk 65 w b #[.slice none 0 0,.slice none 0 0,.slice none 0 0,.slice none 0 0,.slice none 0 0,.slice none 0 0,.slice none 0 0,.slice none 0 0,.slice none 0 0])(y:Nat→SL):∃ w',(Instr.storeAt 65 (.pointer (some ⟨b,0,none⟩)) (.agg #[.slice (y 0).a (y 0).n (y 0).c,.slice (y 1).a (y 1).n (y 1).c,.slice (y 2).a (y 2).n (y 2).c,.slice (y 3).a (y 3).n (y 3).c,.slice (y 4).a (y 4).n (y 4).c,.slice (y 5).a (y 5).n (y 5).c,.slice (y 6).a (y 6).n (y 6).c,.slice (y 7).a (y 7).n (y 7).c,.slice (y 8).a (y 8).n (y 8).c])).run Tryz.prog w=.ok () w'∧Blk 65 w' b #[.slice (y 0).a (y 0).n (y 0).c,.slice (y 1).a (y 1).n (y 1).c,.slice (y 2).a (y 2).n (y 2).c,.slice (y 3).a (y 3).n (y 3).c,.slice (y 4).a (y 4).n (y 4).c,.slice (y 5).a (y 5).n (y 5).c,.slice (y 6).a (y 6).n (y 6).c,.slice (y 7).a (y 7).n (y 7).c,.slice (y 8).a (y 8).n (y 8).c]∧Only b w w':=by
 obtain⟨c0,c1,c2,c3,c4,c5,c6,c7,c8⟩:=q.c9
 obtain⟨o0,o1,o2,o3,o4,o5,o6,o7,o8⟩:=q.o9
 obtain⟨W2,eW,q2,only,hz⟩:=set9 q (.slice (y 0).a (y 0).n (y 0).c) (.slice (y 1).a (y 1).n (y 1).c) (.slice (y 2).a (y 2).n (y 2).c) (.slice (y 3).a (y 3).n (y 3).c) (.slice (y 4).a (y 4).n (y 4).c) (.slice (y 5).a (y 5).n (y 5).c) (.slice (y 6).a (y 6).n (y 6).c) (.slice (y 7).a (y 7).n (y 7).c) (.slice (y 8).a (y 8).n (y 8).c)
 exact⟨W2,by rw[←eW];go_simp,q2,only⟩
theorem run_load65 {w:World}{p:Addr}{y:Nat→SL}(h:∀ j,j<9→w.cell? (p.add j)=some (y j).v):(Instr.loadAt 65 (.pointer (some p))).run Tryz.prog w=.ok (.agg #[.slice (y 0).a (y 0).n (y 0).c,.slice (y 1).a (y 1).n (y 1).c,.slice (y 2).a (y 2).n (y 2).c,.slice (y 3).a (y 3).n (y 3).c,.slice (y 4).a (y 4).n (y 4).c,.slice (y 5).a (y 5).n (y 5).c,.slice (y 6).a (y 6).n (y 6).c,.slice (y 7).a (y 7).n (y 7).c,.slice (y 8).a (y 8).n (y 8).c]) w:=by
 have c0:w.cell? (p.add 0)=some (.slice (y 0).a (y 0).n (y 0).c):=h 0 (by omega)
 have c1:w.cell? (p.add 1)=some (.slice (y 1).a (y 1).n (y 1).c):=h 1 (by omega)
 have c2:w.cell? (p.add 2)=some (.slice (y 2).a (y 2).n (y 2).c):=h 2 (by omega)
 have c3:w.cell? (p.add 3)=some (.slice (y 3).a (y 3).n (y 3).c):=h 3 (by omega)
 have c4:w.cell? (p.add 4)=some (.slice (y 4).a (y 4).n (y 4).c):=h 4 (by omega)
 have c5:w.cell? (p.add 5)=some (.slice (y 5).a (y 5).n (y 5).c):=h 5 (by omega)
 have c6:w.cell? (p.add 6)=some (.slice (y 6).a (y 6).n (y 6).c):=h 6 (by omega)
 have c7:w.cell? (p.add 7)=some (.slice (y 7).a (y 7).n (y 7).c):=h 7 (by omega)
 have c8:w.cell? (p.add 8)=some (.slice (y 8).a (y 8).n (y 8).c):=h 8 (by omega)
 simp only[Addr.add_zero',Addr.add_succ'] at c0 c1 c2 c3 c4 c5 c6 c7 c8
 go_simp
theorem run_field27 (b f:Nat)(o:Nat)(hf:(f=0∧o=0)∨(f=1∧o=8)∨(f=2∧o=9)∨(f=3∧o=10)∨(f=4∧o=11))(w:World):(Instr.fieldAt 27 (.pointer (some ⟨b,0,none⟩)) f).run Tryz.prog w=.ok (.pointer (some ⟨b,o,none⟩)) w:=by
 rcases hf with⟨rfl,rfl⟩|⟨rfl,rfl⟩|⟨rfl,rfl⟩|⟨rfl,rfl⟩|⟨rfl,rfl⟩<;>go_simp
theorem run_load25 {w:World}{p:Addr}{a:Option Addr}{n c:Nat}(h:w.cell? p=some (.slice a n c)):(Instr.loadAt 25 (.pointer (some p))).run Tryz.prog w=.ok (.slice a n c) w:=by go_simp
theorem run_index25 {x:Addr}{n c k:Nat}(h:k<n)(w:World):(Instr.indexAt 25 (.slice (some x) n c) (.int .i64 k)).run Tryz.prog w=.ok (.pointer (some (x.add (k*9)))) w:=by
 have h':(k:Int)<(n:Int):=by omega
 go_simp
theorem run_cfg12 {w:World}{b:Nat}{d h l v u x t n:Int}{s0 s1 s2 s3:Value}(q:Blk 27 w b #[.int .i64 d,.int .i64 h,.int .i64 l,.int .i64 v,.int .i64 u,.int .i64 x,.int .i64 t,.int .i64 n,s0,s1,s2,s3]):(Instr.loadAt 23 (.pointer (some ⟨b,0,none⟩))).run Tryz.prog w=.ok (.agg #[.int .i64 d,.int .i64 h,.int .i64 l,.int .i64 v,.int .i64 u,.int .i64 x,.int .i64 t,.int .i64 n]) w:=by
 obtain⟨c0,c1,c2,c3,c4,c5,c6,c7,c8,c9,c10,c11⟩:=q.c12
 go_simp
theorem Blk.apart {t t':TypeId}{w:World}{b b':Nat}{cs cs':Array Value}(q:Blk t w b cs)(q':Blk t' w b' cs')(h:t≠t'):b≠b':=fun e=>by
 subst e
 have:=Option.some.inj ((show w.heap[b]? = _ from q).symm.trans (show w.heap[b]? = _ from q'))
 simp only[Obj.cells.injEq] at this
 exact h this.2.1
end
end Go.Proofs.YthliomlmhfjhnaaGreat

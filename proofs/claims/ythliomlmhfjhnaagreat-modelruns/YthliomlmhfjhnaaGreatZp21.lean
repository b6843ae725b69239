/- Texts put together. -/
import Derived.Test.YthliomlmhfjhnaaGreatZp11
import Derived.Test.YthliomlmhfjhnaaGreatZp1
namespace Go.Proofs.YthliomlmhfjhnaaGreat
set_option maxRecDepth 20000
set_option maxHeartbeats 16000000
open Go.ChangeShapes Go.WideShapes Go.ChangeAt Go.RowKit
set_option linter.unusedVariables false
set_option linter.unusedSimpArgs false
section
theorem Blk.c12 {t0:TypeId}{w:World}{b:Nat}{x0 x1 x2 x3 x4 x5 x6 x7 x8 x9 x10 x11:Value}(k:Blk t0 w b #[x0,x1,x2,x3,x4,x5,x6,x7,x8,x9,x10,x11]):w.cell? ⟨b,0,none⟩=some x0∧w.cell? ⟨b,1,none⟩=some x1∧w.cell? ⟨b,2,none⟩=some x2∧w.cell? ⟨b,3,none⟩=some x3∧w.cell? ⟨b,4,none⟩=some x4∧w.cell? ⟨b,5,none⟩=some x5∧w.cell? ⟨b,6,none⟩=some x6∧w.cell? ⟨b,7,none⟩=some x7∧w.cell? ⟨b,8,none⟩=some x8∧w.cell? ⟨b,9,none⟩=some x9∧w.cell? ⟨b,10,none⟩=some x10∧w.cell? ⟨b,11,none⟩=some x11 :=
 ⟨k.cell 0 rfl,k.cell 1 rfl,k.cell 2 rfl,k.cell 3 rfl,k.cell 4 rfl,k.cell 5 rfl,k.cell 6 rfl,k.cell 7 rfl,k.cell 8 rfl,k.cell 9 rfl,k.cell 10 rfl,k.cell 11 rfl⟩
theorem Blk.o12 {t0:TypeId}{w:World}{b:Nat}{cs:Array Value}(k:Blk t0 w b cs):w.frozen? ⟨b,0,none⟩=false∧w.frozen? ⟨b,1,none⟩=false∧w.frozen? ⟨b,2,none⟩=false∧w.frozen? ⟨b,3,none⟩=false∧w.frozen? ⟨b,4,none⟩=false∧w.frozen? ⟨b,5,none⟩=false∧w.frozen? ⟨b,6,none⟩=false∧w.frozen? ⟨b,7,none⟩=false∧w.frozen? ⟨b,8,none⟩=false∧w.frozen? ⟨b,9,none⟩=false∧w.frozen? ⟨b,10,none⟩=false∧w.frozen? ⟨b,11,none⟩=false :=
 ⟨k.open_ 0,k.open_ 1,k.open_ 2,k.open_ 3,k.open_ 4,k.open_ 5,k.open_ 6,k.open_ 7,k.open_ 8,k.open_ 9,k.open_ 10,k.open_ 11⟩
structure SL where
 a:Option Addr
 n:Nat
 c:Nat
abbrev SL.w (s:SL):Value:=.slice s.a s.n s.c
abbrev y9 (Y:Nat→SL):Array Value:=#[(Y 0).w,(Y 1).w,(Y 2).w,(Y 3).w,(Y 4).w,(Y 5).w,(Y 6).w,(Y 7).w,(Y 8).w]
def SL.nought:SL:=⟨none,0,0⟩
def SL.v (s:SL):Value:=.slice s.a s.n s.c
structure IsS (w:World) (s:SL) (zs:List Int):Prop where
 reads:Reads .i8 w s.a s.n zs
 nil:s.a=none→s.c=0
 cap:s.n≤s.c
theorem IsS.below {w w':World}{s:SL}{zs:List Int}(h:IsS w s zs)(hb:Bw w w'):IsS w' s zs:=⟨h.reads.below hb,h.nil,h.cap⟩
theorem IsS.none_ (w:World):IsS w ⟨none,0,0⟩ []:=⟨Reads.nil _ _,fun _=>rfl,Nat.le_refl _⟩
structure IsG (w:World) (s:SL) (k:Nat) (R:Nat→SL) (Z:Nat→List Int):Prop where
 len:s.n=k
 some_:0<k→∃ x,s.a=some x
 nil:s.a=none→s.c=0
 cap:s.n≤s.c
 cell:∀ x,s.a=some x→∀ j,j<k→w.cell? (x.add j)=some (R j).v
 row:∀ j,j<k→IsS w (R j) (Z j)
theorem IsG.below {w w':World}{s:SL}{k:Nat}{R:Nat→SL}{Z:Nat→List Int}(h:IsG w s k R Z)(hb:Bw w w'):IsG w' s k R Z :=
 ⟨h.len,h.some_,h.nil,h.cap,fun x hx j hj=>(hb.cell (World.block_lt_of_cell? w _ (h.cell x hx j hj))).trans (h.cell x hx j hj),fun j hj=>(h.row j hj).below hb⟩
structure ModV where
 e:List Int
 nm:List Int
 o:List Int
 ln:Nat
 f:Nat→Nat→List Int
 un:Nat→Nat
 dn:Nat→Nat
 u:Nat→Nat→List Int
 d:Nat→Nat→List Int
structure IsY (w:World) (Y:Nat→SL) (U D:Nat→SL) (f:Nat→List Int) (un dn:Nat) (u d:Nat→List Int):Prop where
 f:∀ j,j<7→IsS w (Y j) (f j)
 u:IsG w (Y 7) un U u
 d:IsG w (Y 8) dn D d
theorem IsY.below {w w':World}{Y U D:Nat→SL}{f:Nat→List Int}{un dn:Nat}{u d:Nat→List Int}(h:IsY w Y U D f un dn u d)(hb:Bw w w'):IsY w' Y U D f un dn u d :=
 ⟨fun j hj=>(h.f j hj).below hb,h.u.below hb,h.d.below hb⟩
structure Qad (w:World) (E L N O:SL) (Y U D:Nat→Nat→SL) (m:ModV):Prop where
 e:IsS w E m.e
 nm:IsS w N m.nm
 o:IsS w O m.o
 len:L.n=m.ln
 some_:0<m.ln→∃ x,L.a=some x
 nil:L.a=none→L.c=0
 cap:L.n≤L.c
 cell:∀ x,L.a=some x→∀ i,i<m.ln→∀ j,j<9→w.cell? ((x.add (i*9)).add j)=some (Y i j).v
 lay:∀ i,i<m.ln→IsY w (Y i) (U i) (D i) (m.f i) (m.un i) (m.dn i) (m.u i) (m.d i)
theorem Qad.below {w w':World}{E L N O:SL}{Y U D:Nat→Nat→SL}{m:ModV}(h:Qad w E L N O Y U D m)(hb:Bw w w'):Qad w' E L N O Y U D m :=
 ⟨h.e.below hb,h.nm.below hb,h.o.below hb,h.len,h.some_,h.nil,h.cap,fun x hx i hi j hj=>(hb.cell (World.block_lt_of_cell? w _ (h.cell x hx i hi j hj))).trans (h.cell x hx i hi j hj),fun i hi=>(h.lay i hi).below hb⟩
def NewM (base:Nat)(w:World)(E L N O:SL)(Y U D:Nat→Nat→SL)(m:ModV):Prop :=
 ∀ w',(∀ p v,w.cell? p=some v→base≤p.block→w'.cell? p=some v)→Qad w' E L N O Y U D m
def noV:ModV:=⟨[],[],[],0,fun _ _=>[],fun _=>0,fun _=>0,fun _ _=>[],fun _ _=>[]⟩
abbrev noS:SL:=⟨none,0,0⟩
theorem NewM.none_ (base:Nat)(w:World)(Y U D:Nat→Nat→SL):NewM base w ⟨none,0,0⟩ ⟨none,0,0⟩ ⟨none,0,0⟩ ⟨none,0,0⟩ Y U D noV:=fun w' _ =>
 ⟨IsS.none_ w',IsS.none_ w',IsS.none_ w',rfl,(fun h=>by cases h),fun _=>rfl,Nat.le_refl _,(fun x hx=>by cases hx),(fun i hi=>by cases hi)⟩
def pl (ne:Nat):Nat:=7+2*ne
def Qar (ln ne:Nat)(S:Nat→List Int):ModV :=
 ⟨S 0,S (1+ln*pl ne),S (1+ln*pl ne+1),ln,fun i j=>S (1+i*pl ne+j),fun _=>ne,fun _=>ne,fun i k=>S (1+i*pl ne+7+2*k),fun i k=>S (1+i*pl ne+7+2*k+1)⟩
def preC (D DD XD r:Nat):Nat:=if r=0∨r=5 then D else if r=6 then XD else DD
def QaO (ln ne D DD XD UD VD k:Nat):Nat :=
 if k=0 then VD else if (k-1)/pl ne<ln then (if (k-1)%pl ne<7 then preC D DD XD ((k-1)%pl ne) else UD) else if (k-1)%pl ne=0 then D else VD
theorem QcG (ne i r:Nat)(h:r<pl ne):(1+i*pl ne+r-1)/pl ne=i∧(1+i*pl ne+r-1)%pl ne=r:=by
 rw[show 1+i*pl ne+r-1=r+pl ne*i by rw[Nat.mul_comm];omega]
 have p:0<pl ne:=by omega
 exact⟨by rw[Nat.add_mul_div_left _ _ p,Nat.div_eq_of_lt h];omega,by rw[Nat.add_mul_mod_self_left,Nat.mod_eq_of_lt h]⟩
theorem Qfo (ln ne k:Nat)(h:k<1+ln*pl ne+2) :
  k=0∨(∃ i r,i<ln∧r<7∧k=1+i*pl ne+r)∨(∃ i j,i<ln∧j<ne∧(k=1+i*pl ne+7+2*j∨k=1+i*pl ne+7+2*j+1))∨k=1+ln*pl ne∨k=1+ln*pl ne+1:=by
 by_cases k0:k=0
 ·exact .inl k0
 have p:0<pl ne:=by unfold pl;omega
 have e:=Nat.div_add_mod (k-1) (pl ne)
 have m:=Nat.mod_lt (k-1) p
 rw[Nat.mul_comm] at e
 obtain⟨i,ei⟩:∃ i,(k-1)/pl ne=i:=⟨_,rfl⟩
 obtain⟨r,er⟩:∃ r,(k-1)%pl ne=r:=⟨_,rfl⟩
 rw[ei,er] at e
 rw[er] at m
 by_cases hi:i<ln
 ·by_cases hr:r<7
  ·exact .inr (.inl ⟨i,r,hi,hr,by omega⟩)
  ·refine .inr (.inr (.inl ⟨i,(r-7)/2,hi,?_,?_⟩))
   ·unfold pl at m;omega
   ·omega
 ·have:ln*pl ne≤i*pl ne:=Nat.mul_le_mul_right _ (by omega)
  omega
variable {ln ne D DD XD UD VD:Nat}
theorem Qbq (i r:Nat)(hi:i<ln)(hr:r<7):QaO ln ne D DD XD UD VD (1+i*pl ne+r)=preC D DD XD r:=by
 obtain⟨e1,e2⟩:=QcG ne i r (by unfold pl;omega)
 unfold QaO
 rw[e1,e2,if_neg (by omega),if_pos hi,if_pos hr]
theorem Qcy (i j:Nat)(hi:i<ln)(hj:j<ne):QaO ln ne D DD XD UD VD (1+i*pl ne+7+2*j)=UD:=by
 obtain⟨e1,e2⟩:=QcG ne i (7+2*j) (by unfold pl;omega)
 rw[←Nat.add_assoc] at e1 e2
 unfold QaO
 rw[e1,e2,if_neg (by omega),if_pos hi,if_neg (by omega)]
theorem Qbr (i j:Nat)(hi:i<ln)(hj:j<ne):QaO ln ne D DD XD UD VD (1+i*pl ne+7+2*j+1)=UD:=by
 obtain⟨e1,e2⟩:=QcG ne i (7+2*j+1) (by unfold pl;omega)
 rw[←Nat.add_assoc,←Nat.add_assoc] at e1 e2
 unfold QaO
 rw[e1,e2,if_neg (by omega),if_pos hi,if_neg (by omega)]
theorem Qbp:QaO ln ne D DD XD UD VD (1+ln*pl ne)=D:=by
 obtain⟨e1,e2⟩:=QcG ne ln 0 (by unfold pl;omega)
 rw[Nat.add_zero] at e1 e2
 unfold QaO
 rw[e1,e2,if_neg (by omega),if_neg (by omega),if_pos rfl]
theorem QbW:QaO ln ne D DD XD UD VD (1+ln*pl ne+1)=VD:=by
 obtain⟨e1,e2⟩:=QcG ne ln 1 (by unfold pl;omega)
 unfold QaO
 rw[e1,e2,if_neg (by omega),if_neg (by omega),if_neg (by omega)]
end
section
theorem Qax (tb f:Nat)(hf:f<9)(w:World):(Instr.fieldAt 65 (Pt tb) f).run Tryz.prog w=.ok (.pointer (some ⟨tb,f,none⟩)) w:=by
 rcases l9 (show f<9 by omega) with rfl|rfl|rfl|rfl|rfl|rfl|rfl|rfl|rfl<;>go_simp
theorem QhK {w:World}{p:Addr}{u:Value}{a:Option Addr}{n c:Nat}(h:w.cell? p=some u)(hf:w.frozen? p=false):(Instr.storeAt 24 (.pointer (some p)) (.slice a n c)).run Tryz.prog w=.ok () (w.setCell p (.slice a n c)):=by
 go_simp
theorem Qfj (w:World):(Instr.buildSlice 24 0 #[]).run Tryz.prog w=.ok (.slice (some ⟨w.heap.size,0,none⟩) 0 0) (w.alloc (.cells #[] 73)):=by
 go_simp
def OpAt (ops:Array Oper)(i:Nat)(dst:Option Tmp)(op:Op)(deps:List Nat):Prop :=
 ∃ o,ops[i]? = some o∧o.dst=dst∧o.op=op∧o.guard=none∧deps.all (fun d=>o.after.any fun e=>e.on==d && Region.binds .any e)=true
def NewS (base:Nat)(w:World)(s:SL)(zs:List Int):Prop:=∀ w',(∀ p v,w.cell? p=some v→base≤p.block→w'.cell? p=some v)→IsS w' s zs
theorem i73':∃ i,Tryz.prog.info? 73=some i∧i.zero=some (.int .i8 0)∧i.size=1∧i.bytes=1:=by
 have:=Qlf
 cases h:Tryz.prog.info? 73 with
 | none=>rw[h] at this;cases this
 | some i=>rw[h] at this;simp at this;exact⟨i,rfl,this.1,this.2.1,this.2.2⟩
variable {N:Nat}{D:Nat→Option Nat}{a0:Act}{R:(Nat→Bool)→Act→World→Prop}{F:(Nat→Bool)→Nat→Value→World→Prop}{l:Nat→Bool}{a:Act}{w:World}
theorem Qgs (w:World)(g:Nat)(B:Nat)(ty:TypeId)(s:SL)(zs:List Int)(hs:IsS w s zs)(hl:zs.length≤140737488355328)(ho:w.ownsRow B 73 1 (.slice (some ⟨g,0,none⟩) 0 0) 0 [])(hB:B≤w.heap.size):∃ s' w',(Builtin.append_ #[24,24] ty #[.slice (some ⟨g,0,none⟩) 0 0,.slice s.a s.n s.c]).run Tryz.prog w=.ok (SL.v s') w'∧s'.n=s.n∧Below w.heap.size w w'∧w'.ownsRow B 73 1 s'.v s'.n (zs.map (Value.int .i8)):=by
 obtain⟨i0,hi,hz0,hz1,hz2⟩:=i73'
 have hlen:=hs.reads.len
 by_cases h0:s.n=0
 ·obtain rfl:zs=[]:=List.eq_nil_of_length_eq_zero (by omega)
  refine⟨⟨some ⟨g,0,none⟩,0,0⟩,w,?_,h0.symm,Below.refl _ _,ho⟩
  rw[h0]
  cases hsa:s.a with
  | none=>simp[Builtin.append_,run_underlying Tryz.underlying24,sizeOf,typeInfo,hi,Builtin.lenOf,Builtin.firstCells,storeCells,SL.v]
  | some x=>simp[Builtin.append_,run_underlying Tryz.underlying24,sizeOf,typeInfo,hi,Builtin.lenOf,Builtin.firstCells,storeCells,loadCells,loadCellsFrom,SL.v]
 ·obtain⟨x,hx⟩:=hs.reads.some_ (by omega)
  have hx':=hs.reads
  rw[hx] at hx' ⊢
  obtain⟨v',w',hr,ho',hg⟩:=run_append_arg_grows (P:=Tryz.prog) (w:=w) 24 ty 73 i0 (.int .i8 0) 1 1 Tryz.underlying24 hi hz0 hz1 hz2 rfl (by decide) ⟨g,0,none⟩ 0 0 [] rfl (fun j u h=>by cases h) x s.n s.c (zs.map (Value.int .i8)) (by rw[List.length_map];omega)
   (fun j u hu=>by
    have hj:j<s.n:=by
     have:=(List.getElem?_eq_some_iff.1 hu).1
     rw[List.length_map] at this
     omega
    rw[hx'.cell x rfl j hj,←hu]
    simp[hlen,hj]) (by omega) (by unfold maxLen;omega) (by omega)
  simp only[Nat.zero_add,List.nil_append] at ho'
  obtain⟨a',c',ev,hre⟩:=oRe (k:=.i8) ho' hlen hx'.wf_mem (fun j hj=>QbR .i8 zs j (by omega))
  have hb:Below w.heap.size w w':=(bS w).grown hg nL (fun g h=>by cases h)
  refine⟨⟨a',s.n,c'⟩,w',by rw[hr,ev];rfl,rfl,hb,?_⟩
  rw[ev] at ho'
  refine⟨ho'.1,?_⟩
  rcases ho'.2 with h2|⟨g,cap,cur,hv,hg,r⟩
  ·exact .inl h2
  ·exact .inr ⟨g,cap,cur,hv,by omega,r⟩
end
end Go.Proofs.YthliomlmhfjhnaaGreat

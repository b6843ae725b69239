/- Texts put together. -/
import Derived.Test.YthliomlmhfjhnaaGreatRows
import Derived.Test.YthliomlmhfjhnaaGreatZf18
import Derived.Deep.Slices
namespace Go.Proofs.YthliomlmhfjhnaaGreat
set_option maxRecDepth 20000
set_option maxHeartbeats 16000000
open Go.ChangeShapes Go.WideShapes Go.ChangeAt Go.RowKit
set_option linter.unusedVariables false
set_option linter.unusedSimpArgs false
section
def From (base:Nat)(w w':World):Prop:=∀ p v,w.cell? p=some v→base≤p.block→w'.cell? p=some v
theorem From.of_below {base:Nat}{w w':World}(hb:Below w.heap.size w w'):From base w w':=fun p v hp _=>(hb.cell (World.block_lt_of_cell? w _ hp)).trans hp
theorem From.of_only {base q:Nat}{w w':World}(o:Only q w w')(hq:q<base):From base w w':=fun p v hp hle=>o.cell hp (fun e=>absurd (show p.block=q by simpa using e) (by omega))
theorem From.trans {base:Nat}{w w' w'':World}(h:From base w w')(k:From base w' w''):From base w w'':=fun p v hp hle=>k p v (h p v hp hle) hle
def NewG (base:Nat)(w:World)(s:SL)(k:Nat)(R:Nat→SL)(Z:Nat→List Int):Prop:=∀ w',From base w w'→IsG w' s k R Z
def NewY (base:Nat)(w:World)(Y:Nat→SL)(U D:Nat→SL)(f:Nat→List Int)(un dn:Nat)(u d:Nat→List Int):Prop:=∀ w',From base w w'→IsY w' Y U D f un dn u d
theorem newY_of {base:Nat}{w:World}{Y U D:Nat→SL}{f:Nat→List Int}{un dn:Nat}{u d:Nat→List Int}(h:∀ j,j<7→NewS base w (Y j) (f j))(hu:NewG base w (Y 7) un U u)(hd:NewG base w (Y 8) dn D d):NewY base w Y U D f un dn u d :=
 fun w' hf=>⟨fun j hj=>h j hj w' hf,hu w' hf,hd w' hf⟩
def cellsG (R:Nat→SL)(k:Nat):List Value:=(List.range k).map fun j=>(R j).v
theorem cellsG_succ (R:Nat→SL)(k:Nat):cellsG R (k+1)=cellsG R k++[(R k).v]:=by simp[cellsG,List.range_succ]
theorem cellsG_congr {R R':Nat→SL}{k:Nat}(h:∀ j,j<k→R j=R' j):cellsG R k=cellsG R' k:=by
 unfold cellsG
 exact List.map_congr_left fun j hj=>by rw[h j (List.mem_range.1 hj)]
theorem newG_of {base:Nat}{w:World}{v:Value}{k:Nat}{R:Nat→SL}{Z:Nat→List Int}(ho:w.ownsRow base 24 1 v k (cellsG R k))(hr:∀ j,j<k→NewS base w (R j) (Z j)):∃ s:SL,v=s.v∧NewG base w s k R Z:=by
 rcases ho.2 with⟨e,e'⟩|⟨g,cap,cur,e,hg,hh,hn,hm,_⟩
 ·subst e'
  exact⟨⟨none,0,0⟩,e,fun w' hf=>⟨rfl,(fun h=>by omega),fun _=>rfl,Nat.le_refl _,(fun x hx=>by cases hx),fun j hj=>by omega⟩⟩
 ·refine⟨⟨some ⟨g,0,none⟩,k,cap⟩,e,fun w' hf=>⟨rfl,fun _=>⟨_,rfl⟩,(fun h=>by cases h),hn,fun x hx j hj=>?_,fun j hj=>hr j hj w' hf⟩⟩
  obtain rfl:=Option.some.inj hx
  rw[e] at ho
  have c:=ho.cells (g:=g) rfl j (R j).v (by simp[cellsG,hj])
  refine hf _ _ c ?_
  have e2:((⟨g,0,none⟩:Addr).add j).block=g:=by unfold Addr.add;split<;>rfl
  omega
def cells9 (Y:Nat→Nat→SL)(n:Nat):List Value:=(List.range n).flatMap fun i=>(List.range 9).map fun r=>(Y i r).v
theorem cells9_succ (Y:Nat→Nat→SL)(n:Nat):cells9 Y (n+1)=cells9 Y n++(List.range 9).map fun r=>(Y n r).v:=by simp[cells9,List.range_succ]
theorem cells9_len (Y:Nat→Nat→SL)(n:Nat):(cells9 Y n).length=n*9:=by
 induction n with
 | zero=>rfl
 | succ n ih=>rw[cells9_succ,List.length_append,ih];simp;omega
theorem cells9_at (Y:Nat→Nat→SL)(n i r:Nat)(hi:i<n)(hr:r<9):(cells9 Y n)[i*9+r]? = some (Y i r).v:=by
 induction n with
 | zero=>omega
 | succ n ih =>
  rw[cells9_succ]
  have hl:=cells9_len Y n
  by_cases e:i=n
  ·subst e
   rw[List.getElem?_append_right (by omega),hl,show i*9+r-i*9=r by omega]
   simp[hr]
  ·rw[List.getElem?_append_left (by omega)]
   exact ih (by omega)
theorem cells9_congr {Y Y':Nat→Nat→SL}{n:Nat}(h:∀ i,i<n→∀ r,r<9→Y i r=Y' i r):cells9 Y n=cells9 Y' n:=by
 induction n with
 | zero=>rfl
 | succ n ih =>
  rw[cells9_succ,cells9_succ,ih fun i hi=>h i (by omega)]
  congr 1
  exact List.map_congr_left fun r hr=>by rw[h n (by omega) r (List.mem_range.1 hr)]
theorem newM_of {base:Nat}{w:World}{v:Value}{E N O:SL}{Y U D:Nat→Nat→SL}{m:ModV}(ho:w.ownsRow base 65 9 v m.ln (cells9 Y m.ln))(hl:∀ i,i<m.ln→NewY base w (Y i) (U i) (D i) (m.f i) (m.un i) (m.dn i) (m.u i) (m.d i))
  (he:NewS base w E m.e) (hn:NewS base w N m.nm) (ho':NewS base w O m.o):∃ L:SL,v=L.v∧NewM base w E L N O Y U D m:=by
 rcases ho.2 with⟨e,e'⟩|⟨g,cap,cur,e,hg,hh,hcap,hm,_⟩
 ·exact⟨⟨none,0,0⟩,e,fun w' hf=>⟨he w' hf,hn w' hf,ho' w' hf,e'.symm,(fun h=>by omega),fun _=>rfl,Nat.le_refl _,(fun x hx=>by cases hx),fun i hi=>hl i hi w' hf⟩⟩
 ·refine⟨⟨some ⟨g,0,none⟩,m.ln,cap⟩,e,fun w' hf=>⟨he w' hf,hn w' hf,ho' w' hf,rfl,fun _=>⟨_,rfl⟩,(fun h=>by cases h),hcap,fun x hx i hi j hj=>?_,fun i hi=>hl i hi w' hf⟩⟩
  obtain rfl:=Option.some.inj hx
  rw[e] at ho
  have c:=ho.cells (g:=g) rfl (i*9+j) (Y i j).v (cells9_at Y m.ln i j hi hj)
  rw[Addr.add_add]
  refine hf _ _ c ?_
  have e2:((⟨g,0,none⟩:Addr).add (i*9+j)).block=g:=by unfold Addr.add;split<;>rfl
  omega
theorem i65':∃ i,Tryz.prog.info? 65=some i∧i.zero=some (.agg #[nilS,nilS,nilS,nilS,nilS,nilS,nilS,nilS,nilS])∧i.size=9∧i.bytes=216:=by
 have:=info65
 cases h:Tryz.prog.info? 65 with
 | none=>rw[h] at this;cases this
 | some i=>rw[h] at this;simp at this;exact⟨i,rfl,this.1,this.2.1,this.2.2⟩
theorem i24':∃ i,Tryz.prog.info? 24=some i∧i.zero=some nilS∧i.size=1∧i.bytes=24:=by
 have:=info24
 cases h:Tryz.prog.info? 24 with
 | none=>rw[h] at this;cases this
 | some i=>rw[h] at this;simp at this;exact⟨i,rfl,this.1,this.2.1,this.2.2⟩
end
end Go.Proofs.YthliomlmhfjhnaaGreat

/- Texts put together. -/
import Derived.Test.YthliomlmhfjhnaaGreatZs32
import Derived.Test.YthliomlmhfjhnaaGreatZs35
import Derived.Test.YthliomlmhfjhnaaGreatZs6
namespace Go.Proofs.YthliomlmhfjhnaaGreat
set_option maxRecDepth 20000
set_option maxHeartbeats 16000000
open Go.ChangeShapes Go.WideShapes Go.ChangeAt Go.RowKit
set_option linter.unusedVariables false
set_option linter.unusedSimpArgs false
section
open Go.Sort hiding Below
structure FitsA (m:AdV):Prop where
 ln:m.ln≤20
 f:∀ i,i<m.ln→∀ j,j<4→(m.f i j).length≤140737488351232
theorem grown_walk (R S:Int)(La:Option Addr)(ml Lc:Nat)(L:SL)(Y:Nat→Nat→SL)(m:AdV)(w:World)(hM:AdAt w L Y m)(hF:FitsA m)(e1:L.a=La)(hml:m.ln=ml) :
  Calls Tryz.prog 10 #[.agg #[.int .i64 R,.int .i64 S,.slice La ml Lc]] w fun e w'=>∃ (L':SL) (Y':Nat→Nat→SL),e=.returned (.agg #[.int .i64 R,.int .i64 S,.slice L'.a L'.n L'.c])∧NewA w.heap.size w' L' Y' m∧Below w.heap.size w w':=by
 obtain⟨W0,eW⟩:∃ W0,(w.alloc (.cells #[.int .i64 R,.int .i64 S,.slice La ml Lc] 30)).alloc (.cells #[.int .i64 0,.int .i64 0,nilS] 30)=W0:=⟨_,rfl⟩
 have hb:Below w.heap.size w W0:=eW ▸ bNw (bNw (Below.refl _ w) _) _
 have qa:Blk 30 W0 w.heap.size #[.int .i64 R,.int .i64 S,.slice La ml Lc]:=eW ▸ (Blk.new 30 w _).kept (bNw (Below.refl _ _) _)
 have qb:Blk 30 W0 (w.heap.size+1) #[.int .i64 0,.int .i64 0,nilS]:=eW ▸ Blk.new_at 30 (w.alloc _) _ _ (by simp)
 have HM:=hdn hM
 have HF:=hdn hF
 have HL:=hdn (And.intro e1 hml)
 have Hml:ml≤20:=by have:=hF.ln;omega
 have HV:=hdn (And.intro hb (And.intro qa qb))
 have EW:=hdn eW
 clear hM hF e1 hml hb qa qb eW
 go_enter Tryz.func10,Tryz.ntmps10
 go_wp2
 rw[EW.out]
 go_loopw [3,4,5] (fun v3 i _ wr=>∃ k:Nat,k≤ml∧i=.int .i64 k∧Below W0.heap.size W0 wr∧∃ Y':Nat→Nat→SL,TA W0.heap.size wr v3 k Y' m.f) (fun _ i _ _=>ml-(intOf i).toNat)
 case atStart=>exact⟨0,Nat.zero_le _,rfl,Below.refl _ _,fun _ _=>SL.nought,TA.nil _ _ _ _⟩
 case round =>
  obtain⟨k,hk,rfl,hbr,Y',tL⟩:=hrel
  obtain⟨WR,eWR⟩:∃ WR,WR=wr:=⟨_,rfl⟩
  subst eWR
  obtain⟨bV,qa,qb⟩:=HV.out
  have hbw:=bTn bV hbr
  obtain⟨a0,a1,a2⟩:=(qa.kept hbr).c3
  by_cases hlt:k<ml
  ·have hMr:=HM.out.below hbw
   have hkm:k<m.ln:=by rw[HL.out.2];exact hlt
   obtain⟨x0,hx0⟩:=hMr.some_ (by omega)
   obtain rfl:La=some x0:=HL.out.1.symm.trans hx0
   have la:=hMr.lay k hkm
   obtain⟨P,eP,p0,p1,p2,p3⟩:=at_four (fun j hj=>hMr.cell x0 hx0 k hkm j hj)
   have hlt':(k:Int)<(ml:Int):=by omega
   have srs:=hbr.size
   have HB:=hdn (And.intro hbw hbr)
   have HLA:=hdn la
   have HT:=hdn tL
   have HS:=hdn srs
   clear hMr hbw hbr la tL bV qa qb srs
   go_wp2
   have q5:=Blk.new 61 WR #[.slice (Y k 0).a (Y k 0).n (Y k 0).c,.slice (Y k 1).a (Y k 1).n (Y k 1).c,.slice (Y k 2).a (Y k 2).n (Y k 2).c,.slice (Y k 3).a (Y k 3).n (Y k 3).c]
   obtain⟨W1,e1⟩:∃ W1,WR.alloc (.cells #[.slice (Y k 0).a (Y k 0).n (Y k 0).c,.slice (Y k 1).a (Y k 1).n (Y k 1).c,.slice (Y k 2).a (Y k 2).n (Y k 2).c,.slice (Y k 3).a (Y k 3).n (Y k 3).c] 61)=W1:=⟨_,rfl⟩
   have bW1:Below WR.heap.size WR W1:=e1 ▸ bNw (Below.refl _ _) _
   rw[e1] at q5 ⊢
   clear e1 p0 p1 p2 p3 a0 a1 a2
   refine own_region W0.heap.size WR.heap.size k _ Y' m.f (Y k) (by kernel_rfl) rfl ⟨_,rfl,rfl,rfl,rfl,by kernel_rfl⟩ (fun j hj=>by rcases (show j=0∨j=1∨j=2∨j=3 by omega) with rfl|rfl|rfl|rfl<;>exact⟨⟨_,rfl,rfl,rfl,rfl,by kernel_rfl⟩,⟨_,rfl,rfl,rfl,rfl,by kernel_rfl⟩,⟨_,rfl,rfl,rfl,rfl,by kernel_rfl⟩,⟨_,rfl,rfl,rfl,rfl,by kernel_rfl⟩⟩)
    ⟨_,rfl,rfl,rfl,rfl,by kernel_rfl⟩ ⟨_,rfl,rfl,rfl,rfl,by kernel_rfl⟩ ⟨_,rfl,rfl,rfl,rfl,by kernel_rfl⟩ ⟨_,rfl,rfl,rfl,rfl,by kernel_rfl⟩ rfl rfl (Nat.le_of_ble_eq_true rfl) (Nat.le_trans HS.out bW1.size) (HT.out.below bW1) q5 (fun j hj=>⟨(HLA.out j hj).below bW1,by have:=HF.out.f k hkm j hj;omega⟩) (by omega) ?_
   intro a W2 s hs hd hkp hbo hta
   have bW2:Below W0.heap.size W0 W2:=(bTn HB.out.2 bW1).trans hbo
   have ep:=fPu [3,18,19,20,21,22,23,24,25,26,27,28,29,30,31,32,33,34,35,36,37] hs hd (fun s h=>hkp s (by simp at h;omega))
   simp only[List.foldl] at ep
   clear hs hd hkp
   generalize a.tmps.getD 3 undef=g3 at ep hta
   generalize a.tmps.getD 18 undef=g18,a.tmps.getD 19 undef=g19,a.tmps.getD 20 undef=g20,a.tmps.getD 21 undef=g21,a.tmps.getD 22 undef=g22,a.tmps.getD 23 undef=g23,a.tmps.getD 24 undef=g24,a.tmps.getD 25 undef=g25,a.tmps.getD 26 undef=g26,a.tmps.getD 27 undef=g27,a.tmps.getD 28 undef=g28,a.tmps.getD 29 undef=g29,a.tmps.getD 30 undef=g30,a.tmps.getD 31 undef=g31,a.tmps.getD 32 undef=g32,a.tmps.getD 33 undef=g33,a.tmps.getD 34 undef=g34,a.tmps.getD 35 undef=g35,a.tmps.getD 36 undef=g36,a.tmps.getD 37 undef=g37 at ep
   simp only[Act.put,List.setIfInBounds_toArray,List.set_cons_succ,List.set_cons_zero] at ep
   subst ep
   clear q5 bW1 hbo
   go_wp2
   go_roundw
   case rel=>exact⟨k+1,by omega,by go_num,bW2,_,hta⟩
   case measure=>simp[intOf];omega
  ·have e:k=ml:=by omega
   subst e
   have el:m.ln=k:=HL.out.2
   obtain⟨L',rfl,nw⟩:=TA.new (m:=m) (by rw[el];exact tL)
   have qb':=qb.kept hbr
   have qa':=qa.kept hbr
   have lt1:=qa.lt
   have lt2:=qb.lt
   obtain⟨b0,b1,b2⟩:=qb'.c3
   obtain⟨z0,z1,z2⟩:=qa'.o3
   -- the layers are laid into the adapter,and that into the result
   have qa2:Blk 30 (WR.setCell ⟨w.heap.size,2,none⟩ (.slice L'.a L'.n L'.c)) w.heap.size #[.int .i64 R,.int .i64 S,.slice L'.a L'.n L'.c]:=set_blk qa' 2 _ rfl
   have qb2:Blk 30 (WR.setCell ⟨w.heap.size,2,none⟩ (.slice L'.a L'.n L'.c)) (w.heap.size+1) #[.int .i64 0,.int .i64 0,nilS]:=qb'.other _ (by simp)
   have on2:=Only.set w.heap.size 2 WR (.slice L'.a L'.n L'.c)
   obtain⟨V,eV⟩:∃ V,WR.setCell ⟨w.heap.size,2,none⟩ (.slice L'.a L'.n L'.c)=V:=⟨_,rfl⟩
   rw[eV] at qa2 qb2 on2
   have bV2:Below w.heap.size w V:=Only.below hbw (Nat.le_refl _) hbw.size on2
   obtain⟨d0,d1,d2⟩:=qa2.c3
   obtain⟨f0,f1,f2⟩:=qb2.c3
   obtain⟨o0,o1,o2⟩:=qb2.o3
   clear tL b0 b1 b2
   unfold SL.v
   go_wp2
   obtain⟨W6,eW6,q6,only,hz⟩:=set3 qb2 (.int .i64 R) (.int .i64 S) (.slice L'.a L'.n L'.c)
   rw[eW6]
   refine bodyPost_ret (v:=.agg #[.int .i64 R,.int .i64 S,.slice L'.a L'.n L'.c]) ?_ rfl ⟨L',Y',rfl,((nw.only on2 lt1).only only lt2).le (by omega),Only.below bV2 (Nat.le_succ _) bV2.size only⟩
   obtain⟨y0,y1,y2⟩:=q6.c3
   simp[results,Tryz.results10,go_sem,y0,y1,y2]
theorem grown_call (R S:Int)(L:SL)(Y:Nat→Nat→SL)(m:AdV)(w:World)(hM:AdAt w L Y m)(hF:FitsA m) :
  Calls Tryz.prog 10 #[.agg #[.int .i64 R,.int .i64 S,.slice L.a L.n L.c]] w fun e w'=>∃ (L':SL) (Y':Nat→Nat→SL),e=.returned (.agg #[.int .i64 R,.int .i64 S,.slice L'.a L'.n L'.c])∧NewA w.heap.size w' L' Y' m∧Below w.heap.size w w' :=
 grown_walk R S L.a L.n L.c L Y m w hM hF rfl hM.len.symm
end
section
open Go.Sort hiding Below
theorem run_ad2 (b:Nat)(w:World):(Instr.fieldAt 30 (.pointer (some ⟨b,0,none⟩)) 2).run Tryz.prog w=.ok (.pointer (some ⟨b,2,none⟩)) w:=by go_simp
theorem run_load28 {w:World}{p:Addr}{a:Option Addr}{n c:Nat}(h:w.cell? p=some (.slice a n c)):(Instr.loadAt 28 (.pointer (some p))).run Tryz.prog w=.ok (.slice a n c) w:=by go_simp
theorem run_idx22 (x:Addr)(n c k:Nat)(hk:k<n)(hn:n≤4611686018427387904)(w:World):(Instr.indexAt 28 (.slice (some x) n c) (.int .i64 (k:Int))).run Tryz.prog w=.ok (.pointer (some (x.add (k*4)))) w:=by
 have h1:(k:Int)<(n:Int):=by omega
 have h2:(0:Int)≤(k:Int):=by omega
 go_simp
theorem run_load61 {w:World}{p:Addr}{y:Nat→SL}(h:w.cell? p=some (.slice (y 0).a (y 0).n (y 0).c)∧w.cell? ⟨p.block,p.off+1,none⟩=some (.slice (y 1).a (y 1).n (y 1).c)∧w.cell? ⟨p.block,p.off+2,none⟩=some (.slice (y 2).a (y 2).n (y 2).c)∧w.cell? ⟨p.block,p.off+3,none⟩=some (.slice (y 3).a (y 3).n (y 3).c)) :
  (Instr.loadAt 61 (.pointer (some p))).run Tryz.prog w=.ok (.agg #[.slice (y 0).a (y 0).n (y 0).c,.slice (y 1).a (y 1).n (y 1).c,.slice (y 2).a (y 2).n (y 2).c,.slice (y 3).a (y 3).n (y 3).c]) w:=by
 obtain⟨h0,h1,h2,h3⟩:=h
 go_simp
theorem run_alloc52 (w:World):(Instr.alloc 61 true (.tuple #[])).run Tryz.prog w=.ok (.pointer (some ⟨w.heap.size,0,none⟩)) (w.alloc (.cells #[nilS,nilS,nilS,nilS] 61)):=by go_simp
theorem run_store61 {w:World}{b:Nat}(q:Blk 61 w b #[nilS,nilS,nilS,nilS])(y:Nat→SL):∃ w',(Instr.storeAt 61 (.pointer (some ⟨b,0,none⟩)) (.agg #[.slice (y 0).a (y 0).n (y 0).c,.slice (y 1).a (y 1).n (y 1).c,.slice (y 2).a (y 2).n (y 2).c,.slice (y 3).a (y 3).n (y 3).c])).run Tryz.prog w=.ok () w'∧Blk 61 w' b #[.slice (y 0).a (y 0).n (y 0).c,.slice (y 1).a (y 1).n (y 1).c,.slice (y 2).a (y 2).n (y 2).c,.slice (y 3).a (y 3).n (y 3).c]∧Only b w w':=by
 obtain⟨z0,z1,z2,z3⟩:=q.c4
 obtain⟨o0,o1,o2,o3⟩:=q.o4
 have q0:Blk 61 (w.setCell ⟨b,0,none⟩ (.slice (y 0).a (y 0).n (y 0).c)) b #[.slice (y 0).a (y 0).n (y 0).c,nilS,nilS,nilS]:=set_blk q 0 _ rfl
 have q1:=set_blk q0 1 (.slice (y 1).a (y 1).n (y 1).c) rfl
 have q2:=set_blk q1 2 (.slice (y 2).a (y 2).n (y 2).c) rfl
 have q3:=set_blk q2 3 (.slice (y 3).a (y 3).n (y 3).c) rfl
 have on:=(((Only.set b 0 w (.slice (y 0).a (y 0).n (y 0).c)).trans (Only.set b 1 _ (.slice (y 1).a (y 1).n (y 1).c))).trans (Only.set b 2 _ (.slice (y 2).a (y 2).n (y 2).c))).trans (Only.set b 3 _ (.slice (y 3).a (y 3).n (y 3).c))
 refine⟨_,?_,q3,on⟩
 clear q0 q1 q2 q3 on q
 go_simp
def pairD (i:Nat):Option Nat:=if i<10 then some (36+i) else if i=10 then some 6 else if i=11 then some 7 else none
theorem pairD_inj {i j d:Nat}(h1:pairD i=some d)(h2:pairD j=some d):i=j:=by
 unfold pairD at h1 h2
 repeat' split at h1
 all_goals (repeat' split at h2)
 all_goals first|(simp at h2;done)|(simp at h1;done)|(simp at h1 h2;omega)
theorem pairD_ne {i s:Nat}(h:s≠6∧s≠7∧(s<36∨46≤s)):pairD i≠some s:=by
 intro e
 unfold pairD at e
 repeat' split at e
 all_goals first|(simp at e;done)|(simp at e;omega)
def pairV (ab bb k n c c':Nat)(x0 x1:Addr)(ya yb:Nat→SL)(i:Nat)(v:Value):Prop :=
 match i with
 | 0=>v=.pointer (some ⟨ab,2,none⟩)
 | 1=>v=.slice (some x0) n c
 | 2=>v=.int .i64 (k:Int)
 | 3=>v=.pointer (some (x0.add (k*4)))
 | 4=>v=.agg #[.slice (ya 0).a (ya 0).n (ya 0).c,.slice (ya 1).a (ya 1).n (ya 1).c,.slice (ya 2).a (ya 2).n (ya 2).c,.slice (ya 3).a (ya 3).n (ya 3).c]
 | 5=>v=.pointer (some ⟨bb,2,none⟩)
 | 6=>v=.slice (some x1) n c'
 | 7=>v=.int .i64 (k:Int)
 | 8=>v=.pointer (some (x1.add (k*4)))
 | 9=>v=.agg #[.slice (yb 0).a (yb 0).n (yb 0).c,.slice (yb 1).a (yb 1).n (yb 1).c,.slice (yb 2).a (yb 2).n (yb 2).c,.slice (yb 3).a (yb 3).n (yb 3).c]
 | _=>True
def pairR (w0:World)(ya yb:Nat→SL)(l:Nat→Bool)(a:Act)(w:World):Prop:=Below w0.heap.size w0 w∧∃ G H:Nat,(l 10=true→a.tmps.getD 6 undef=.pointer (some ⟨G,0,none⟩)∧w0.heap.size≤G∧Blk 61 w G (cond (l 12) #[.slice (ya 0).a (ya 0).n (ya 0).c,.slice (ya 1).a (ya 1).n (ya 1).c,.slice (ya 2).a (ya 2).n (ya 2).c,.slice (ya 3).a (ya 3).n (ya 3).c] #[nilS,nilS,nilS,nilS])) ∧
 (l 11=true→a.tmps.getD 7 undef=.pointer (some ⟨H,0,none⟩)∧w0.heap.size≤H∧Blk 61 w H (cond (l 13) #[.slice (yb 0).a (yb 0).n (yb 0).c,.slice (yb 1).a (yb 1).n (yb 1).c,.slice (yb 2).a (yb 2).n (yb 2).c,.slice (yb 3).a (yb 3).n (yb 3).c] #[nilS,nilS,nilS,nilS]))∧(l 10=true→l 11=true→G≠H)
theorem pair_region {id:Nat}{ops:Array Oper}{Q:Exit→Act→World→Prop}{a0:Act}{w0:World}(ab bb k n c c':Nat)(x0 x1:Addr)(ya yb:Nat→SL)(hlow:lowB ops=true)(hsz:ops.size=14)
  (o0:OpAt ops 0 (some 36) (.fieldAddr 30 (.tmp 2) 2) [])
  (o1:OpAt ops 1 (some 37) (.load 28 (.tmp 36)) [0])
  (o2:OpAt ops 2 (some 38) (.move (.tmp 5)) [])
  (o3:OpAt ops 3 (some 39) (.indexAddr 28 (.tmp 37) (.tmp 38)) [1,2])
  (o4:OpAt ops 4 (some 40) (.load 61 (.tmp 39)) [3])
  (o5:OpAt ops 5 (some 41) (.fieldAddr 30 (.tmp 3) 2) [])
  (o6:OpAt ops 6 (some 42) (.load 28 (.tmp 41)) [5])
  (o7:OpAt ops 7 (some 43) (.move (.tmp 5)) [])
  (o8:OpAt ops 8 (some 44) (.indexAddr 28 (.tmp 42) (.tmp 43)) [6,7])
  (o9:OpAt ops 9 (some 45) (.load 61 (.tmp 44)) [8])
  (o10:OpAt ops 10 (some 6) (.alloc 61) [])
  (o11:OpAt ops 11 (some 7) (.alloc 61) [])
  (o12:OpAt ops 12 none (.store 61 (.tmp 6) (.tmp 40)) [4,10])
  (o13:OpAt ops 13 none (.store 61 (.tmp 7) (.tmp 45)) [9,11])
  (h2:a0.tmps.getD 2 undef=.pointer (some ⟨ab,0,none⟩)) (h3:a0.tmps.getD 3 undef=.pointer (some ⟨bb,0,none⟩)) (h5:a0.tmps.getD 5 undef=.int .i64 (k:Int)) (hN:46≤a0.tmps.size) (hk:k<n) (hn:n≤4611686018427387904)
  (ca0:w0.cell? ⟨ab,2,none⟩=some (.slice (some x0) n c)) (cb0:w0.cell? ⟨bb,2,none⟩=some (.slice (some x1) n c'))
  (pa0:∀ j,j<4→w0.cell? ((x0.add (k*4)).add j)=some (ya j).v) (pb0:∀ j,j<4→w0.cell? ((x1.add (k*4)).add j)=some (yb j).v)
  (fin:∀ a w (G H:Nat),a.tmps.size=a0.tmps.size→a.defers=a0.defers→(∀ s,s≠6∧s≠7∧(s<36∨46≤s)→a.tmps.getD s undef=a0.tmps.getD s undef)→Below w0.heap.size w0 w→a.tmps.getD 6 undef=.pointer (some ⟨G,0,none⟩)→a.tmps.getD 7 undef=.pointer (some ⟨H,0,none⟩)→Blk 61 w G #[.slice (ya 0).a (ya 0).n (ya 0).c,.slice (ya 1).a (ya 1).n (ya 1).c,.slice (ya 2).a (ya 2).n (ya 2).c,.slice (ya 3).a (ya 3).n (ya 3).c]→Blk 61 w H #[.slice (yb 0).a (yb 0).n (yb 0).c,.slice (yb 1).a (yb 1).n (yb 1).c,.slice (yb 2).a (yb 2).n (yb 2).c,.slice (yb 3).a (yb 3).n (yb 3).c]→Q .normal a w) :
  (Code.region id ops true).wp Tryz.prog Q a0 w0:=by
 refine wRi (by kernel_rfl) hlow (Inv 14 pairD a0 (pairR w0 ya yb) (fun _ i v _=>pairV ab bb k n c c' x0 x1 ya yb i v)) (Inv.start ⟨⟨rfl,rfl,rfl,Nat.le_refl _,fun _ _=>rfl⟩,0,0,(fun h=>by cases h),(fun h=>by cases h),(fun h=>by cases h)⟩) ?_ ?_
 ·intro l i o a w ho hl hcl hdep hI
  have hi:i<14:=by rw[←hsz];exact (Array.getElem?_eq_some_iff.1 ho).1
  obtain⟨hw,G,H,hG,hH,hne⟩:=hI.world
  have ev:∀ (s:Nat),a.eval (.tmp s)=a.tmps.getD s undef:=fun _=>rfl
  have s2:=(hI.kept 2 (fun j _=>pairD_ne (by omega))).trans h2
  have s3:=(hI.kept 3 (fun j _=>pairD_ne (by omega))).trans h3
  have s5:=(hI.kept 5 (fun j _=>pairD_ne (by omega))).trans h5
  have cel:∀ p v,w0.cell? p=some v→w.cell? p=some v:=fun p v hp=>(hw.cell (World.block_lt_of_cell? _ _ hp)).trans hp
  have ca:=cel _ _ ca0
  have cb:=cel _ _ cb0
  have pa:w.cell? (x0.add (k*4))=some (.slice (ya 0).a (ya 0).n (ya 0).c)∧w.cell? ⟨(x0.add (k*4)).block,(x0.add (k*4)).off+1,none⟩=some (.slice (ya 1).a (ya 1).n (ya 1).c)∧w.cell? ⟨(x0.add (k*4)).block,(x0.add (k*4)).off+2,none⟩=some (.slice (ya 2).a (ya 2).n (ya 2).c)∧w.cell? ⟨(x0.add (k*4)).block,(x0.add (k*4)).off+3,none⟩=some (.slice (ya 3).a (ya 3).n (ya 3).c) :=
   ⟨cel _ _ (pa0 0 (by decide)),cel _ _ (pa0 1 (by decide)),cel _ _ (pa0 2 (by decide)),cel _ _ (pa0 3 (by decide))⟩
  have pb:w.cell? (x1.add (k*4))=some (.slice (yb 0).a (yb 0).n (yb 0).c)∧w.cell? ⟨(x1.add (k*4)).block,(x1.add (k*4)).off+1,none⟩=some (.slice (yb 1).a (yb 1).n (yb 1).c)∧w.cell? ⟨(x1.add (k*4)).block,(x1.add (k*4)).off+2,none⟩=some (.slice (yb 2).a (yb 2).n (yb 2).c)∧w.cell? ⟨(x1.add (k*4)).block,(x1.add (k*4)).off+3,none⟩=some (.slice (yb 3).a (yb 3).n (yb 3).c) :=
   ⟨cel _ _ (pb0 0 (by decide)),cel _ _ (pb0 1 (by decide)),cel _ _ (pb0 2 (by decide)),cel _ _ (pb0 3 (by decide))⟩
  have inj:∀ d,pairD i=some d→∀ j d',j<14→pairD j=some d'→j≠i→d'≠d:=fun d hd j d' hj hd' hne e=>hne (pairD_inj (by rw[hd',e]) hd)
  have get:∀ (d:Nat) (v:Value) (s:Nat),d<46→s≠d→(a.put (some d) v).tmps.getD s undef=a.tmps.getD s undef:=fun d v s hd hs=>by
   rw[get_put a d v s (by rw[hI.size];exact Nat.lt_of_lt_of_le hd hN),if_neg hs]
  have oth:∀ j,j≠i→(l j || j==i)=l j:=fun j hj=>by rw[show (j==i)=false by simp[hj],Bool.or_false]
  have pure_:∀ {v:Value},i<10→pairV ab bb k n c c' x0 x1 ya yb i v→Inv 14 pairD a0 (pairR w0 ya yb) (fun _ i v _=>pairV ab bb k n c c' x0 x1 ya yb i v) (fun j=>l j || j==i) (a.put (some (36+i)) v) w:=by
   intro v hi' hv
   have hD:pairD i=some (36+i):=by unfold pairD;rw[if_pos hi']
   have t46:36+i<46:=by omega
   refine hI.put hi hD (Nat.lt_of_lt_of_le t46 hN) (inj _ hD) ⟨hw,G,H,fun h=>?_,fun h=>?_,fun h h'=>?_⟩ hv (fun j u _ _ _ hf=>hf)
   ·dsimp only at h ⊢
    rw[oth 10 (by omega)] at h
    rw[oth 12 (by omega),get (36+i) v 6 t46 (by omega)]
    exact hG h
   ·dsimp only at h ⊢
    rw[oth 11 (by omega)] at h
    rw[oth 13 (by omega),get (36+i) v 7 t46 (by omega)]
    exact hH h
   ·dsimp only at h h'
    rw[oth 10 (by omega)] at h
    rw[oth 11 (by omega)] at h'
    exact hne h h'
  rcases (show i=0∨i=1∨i=2∨i=3∨i=4∨i=5∨i=6∨i=7∨i=8∨i=9∨i=10∨i=11∨i=12∨i=13 by omega) with rfl|rfl|rfl|rfl|rfl|rfl|rfl|rfl|rfl|rfl|rfl|rfl|rfl|rfl
  ·obtain⟨o',e1,e2,e3,e4,e5⟩:=o0
   obtain rfl:=sOp ho e1
   have dp:=dPo e5 hdep
   refine wVa (v:=.pointer (some ⟨ab,2,none⟩)) (w':=w) ho e4 (by simp[execOp,e3,ev,s2,run_ad2]) (by rw[e2];exact pure_ (by decide) rfl)
  ·obtain⟨o',e1,e2,e3,e4,e5⟩:=o1
   obtain rfl:=sOp ho e1
   have dp:=dPo e5 hdep
   have V0:a.tmps.getD 36 undef=.pointer (some ⟨ab,2,none⟩):=hI.val 0 36 (by decide) rfl (dp 0 (by decide))
   refine wVa (v:=.slice (some x0) n c) (w':=w) ho e4 (by simp[execOp,e3,ev,V0,run_load28 ca]) (by rw[e2];exact pure_ (by decide) rfl)
  ·obtain⟨o',e1,e2,e3,e4,e5⟩:=o2
   obtain rfl:=sOp ho e1
   have dp:=dPo e5 hdep
   refine wVa (v:=.int .i64 (k:Int)) (w':=w) ho e4 (by simp[execOp,e3,ev,s5]) (by rw[e2];exact pure_ (by decide) rfl)
  ·obtain⟨o',e1,e2,e3,e4,e5⟩:=o3
   obtain rfl:=sOp ho e1
   have dp:=dPo e5 hdep
   have V1:a.tmps.getD 37 undef=.slice (some x0) n c:=hI.val 1 37 (by decide) rfl (dp 1 (by decide))
   have V2:a.tmps.getD 38 undef=.int .i64 (k:Int):=hI.val 2 38 (by decide) rfl (dp 2 (by decide))
   refine wVa (v:=.pointer (some (x0.add (k*4)))) (w':=w) ho e4 (by simp[execOp,e3,ev,V1,V2,run_idx22 x0 n c k hk hn]) (by rw[e2];exact pure_ (by decide) rfl)
  ·obtain⟨o',e1,e2,e3,e4,e5⟩:=o4
   obtain rfl:=sOp ho e1
   have dp:=dPo e5 hdep
   have V3:a.tmps.getD 39 undef=.pointer (some (x0.add (k*4))):=hI.val 3 39 (by decide) rfl (dp 3 (by decide))
   refine wVa (v:=.agg #[.slice (ya 0).a (ya 0).n (ya 0).c,.slice (ya 1).a (ya 1).n (ya 1).c,.slice (ya 2).a (ya 2).n (ya 2).c,.slice (ya 3).a (ya 3).n (ya 3).c]) (w':=w) ho e4 (by simp[execOp,e3,ev,V3,run_load61 pa]) (by rw[e2];exact pure_ (by decide) rfl)
  ·obtain⟨o',e1,e2,e3,e4,e5⟩:=o5
   obtain rfl:=sOp ho e1
   have dp:=dPo e5 hdep
   refine wVa (v:=.pointer (some ⟨bb,2,none⟩)) (w':=w) ho e4 (by simp[execOp,e3,ev,s3,run_ad2]) (by rw[e2];exact pure_ (by decide) rfl)
  ·obtain⟨o',e1,e2,e3,e4,e5⟩:=o6
   obtain rfl:=sOp ho e1
   have dp:=dPo e5 hdep
   have V5:a.tmps.getD 41 undef=.pointer (some ⟨bb,2,none⟩):=hI.val 5 41 (by decide) rfl (dp 5 (by decide))
   refine wVa (v:=.slice (some x1) n c') (w':=w) ho e4 (by simp[execOp,e3,ev,V5,run_load28 cb]) (by rw[e2];exact pure_ (by decide) rfl)
  ·obtain⟨o',e1,e2,e3,e4,e5⟩:=o7
   obtain rfl:=sOp ho e1
   have dp:=dPo e5 hdep
   refine wVa (v:=.int .i64 (k:Int)) (w':=w) ho e4 (by simp[execOp,e3,ev,s5]) (by rw[e2];exact pure_ (by decide) rfl)
  ·obtain⟨o',e1,e2,e3,e4,e5⟩:=o8
   obtain rfl:=sOp ho e1
   have dp:=dPo e5 hdep
   have V6:a.tmps.getD 42 undef=.slice (some x1) n c':=hI.val 6 42 (by decide) rfl (dp 6 (by decide))
   have V7:a.tmps.getD 43 undef=.int .i64 (k:Int):=hI.val 7 43 (by decide) rfl (dp 7 (by decide))
   refine wVa (v:=.pointer (some (x1.add (k*4)))) (w':=w) ho e4 (by simp[execOp,e3,ev,V6,V7,run_idx22 x1 n c' k hk hn]) (by rw[e2];exact pure_ (by decide) rfl)
  ·obtain⟨o',e1,e2,e3,e4,e5⟩:=o9
   obtain rfl:=sOp ho e1
   have dp:=dPo e5 hdep
   have V8:a.tmps.getD 44 undef=.pointer (some (x1.add (k*4))):=hI.val 8 44 (by decide) rfl (dp 8 (by decide))
   refine wVa (v:=.agg #[.slice (yb 0).a (yb 0).n (yb 0).c,.slice (yb 1).a (yb 1).n (yb 1).c,.slice (yb 2).a (yb 2).n (yb 2).c,.slice (yb 3).a (yb 3).n (yb 3).c]) (w':=w) ho e4 (by simp[execOp,e3,ev,V8,run_load61 pb]) (by rw[e2];exact pure_ (by decide) rfl)
  ·obtain⟨o',e1,e2,e3,e4,e5⟩:=o10
   obtain rfl:=sOp ho e1
   have l12:l 12=false:=by
    cases e:l 12 with
    | false=>rfl
    | true=>rw[hcl.dep o12 e 10 (by simp)] at hl;cases hl
   refine wVa (v:=.pointer (some ⟨w.heap.size,0,none⟩)) (w':=w.alloc (.cells #[nilS,nilS,nilS,nilS] 61)) ho e4 (by simp[execOp,e3,run_alloc52]) ?_
   rw[e2]
   have b1:=bNw (Below.refl w.heap.size w) (.cells #[nilS,nilS,nilS,nilS] 61)
   refine hI.put hi rfl (Nat.lt_of_lt_of_le (by decide) hN) (inj 6 rfl) ⟨bTn hw b1,w.heap.size,H,fun _=>⟨?_,hw.size,?_⟩,fun h=>?_,fun _ h=>?_⟩ trivial (fun j u _ _ _ hf=>hf)
   ·rw[get_put a 6 _ 6 (by rw[hI.size];exact Nat.lt_of_lt_of_le (by decide) hN),if_pos rfl]
   ·dsimp only
    rw[oth 12 (by decide),l12]
    exact Blk.new 61 w _
   ·dsimp only at h ⊢
    rw[oth 11 (by decide)] at h
    rw[oth 13 (by decide),get 6 _ 7 (by decide) (by decide)]
    exact⟨(hH h).1,(hH h).2.1,(hH h).2.2.kept b1⟩
   ·dsimp only at h
    rw[oth 11 (by decide)] at h
    have:=(hH h).2.2.lt
    omega
  ·obtain⟨o',e1,e2,e3,e4,e5⟩:=o11
   obtain rfl:=sOp ho e1
   have l13:l 13=false:=by
    cases e:l 13 with
    | false=>rfl
    | true=>rw[hcl.dep o13 e 11 (by simp)] at hl;cases hl
   refine wVa (v:=.pointer (some ⟨w.heap.size,0,none⟩)) (w':=w.alloc (.cells #[nilS,nilS,nilS,nilS] 61)) ho e4 (by simp[execOp,e3,run_alloc52]) ?_
   rw[e2]
   have b1:=bNw (Below.refl w.heap.size w) (.cells #[nilS,nilS,nilS,nilS] 61)
   refine hI.put hi rfl (Nat.lt_of_lt_of_le (by decide) hN) (inj 7 rfl) ⟨bTn hw b1,G,w.heap.size,fun h=>?_,fun _=>⟨?_,hw.size,?_⟩,fun h _=>?_⟩ trivial (fun j u _ _ _ hf=>hf)
   ·dsimp only at h ⊢
    rw[oth 10 (by decide)] at h
    rw[oth 12 (by decide),get 7 _ 6 (by decide) (by decide)]
    exact⟨(hG h).1,(hG h).2.1,(hG h).2.2.kept b1⟩
   ·rw[get_put a 7 _ 7 (by rw[hI.size];exact Nat.lt_of_lt_of_le (by decide) hN),if_pos rfl]
   ·dsimp only
    rw[oth 13 (by decide),l13]
    exact Blk.new 61 w _
   ·dsimp only at h
    rw[oth 10 (by decide)] at h
    have:=(hG h).2.2.lt
    omega
  ·obtain⟨o',e1,e2,e3,e4,e5⟩:=o12
   obtain rfl:=sOp ho e1
   have dp:=dPo e5 hdep
   have V4:a.tmps.getD 40 undef=.agg #[.slice (ya 0).a (ya 0).n (ya 0).c,.slice (ya 1).a (ya 1).n (ya 1).c,.slice (ya 2).a (ya 2).n (ya 2).c,.slice (ya 3).a (ya 3).n (ya 3).c]:=hI.val 4 40 (by decide) rfl (dp 4 (by decide))
   have l10:=dp 10 (by decide)
   obtain⟨g1,g2,g3⟩:=hG l10
   rw[hl] at g3
   obtain⟨w',hrn,q',on⟩:=run_store61 g3 ya
   refine wSk (w':=w') ho e4 (by simp[execOp,e3,ev,g1,V4,hrn]) ?_
   rw[e2]
   refine hI.none_ rfl ⟨Only.below hw g2 hw.size on,G,H,fun h=>⟨g1,g2,by rw[show ((fun j=>l j || j==12) 12)=true by simp];exact q'⟩,fun h=>?_,fun h h'=>hne l10 (by dsimp only at h';rw[oth 11 (by decide)] at h';exact h')⟩ (fun j u _ _ _ hf=>hf)
   dsimp only at h ⊢
   rw[oth 11 (by decide)] at h
   rw[oth 13 (by decide)]
   exact⟨(hH h).1,(hH h).2.1,(on.block H (hH h).2.2.lt (fun e=>hne l10 h (Option.some.inj e).symm)).trans (hH h).2.2⟩
  ·obtain⟨o',e1,e2,e3,e4,e5⟩:=o13
   obtain rfl:=sOp ho e1
   have dp:=dPo e5 hdep
   have V9:a.tmps.getD 45 undef=.agg #[.slice (yb 0).a (yb 0).n (yb 0).c,.slice (yb 1).a (yb 1).n (yb 1).c,.slice (yb 2).a (yb 2).n (yb 2).c,.slice (yb 3).a (yb 3).n (yb 3).c]:=hI.val 9 45 (by decide) rfl (dp 9 (by decide))
   have l11:=dp 11 (by decide)
   obtain⟨g1,g2,g3⟩:=hH l11
   rw[hl] at g3
   obtain⟨w',hrn,q',on⟩:=run_store61 g3 yb
   refine wSk (w':=w') ho e4 (by simp[execOp,e3,ev,g1,V9,hrn]) ?_
   rw[e2]
   refine hI.none_ rfl ⟨Only.below hw g2 hw.size on,G,H,fun h=>?_,fun h=>⟨g1,g2,by rw[show ((fun j=>l j || j==13) 13)=true by simp];exact q'⟩,fun h h'=>hne (by dsimp only at h;rw[oth 10 (by decide)] at h;exact h) l11⟩ (fun j u _ _ _ hf=>hf)
   dsimp only at h ⊢
   rw[oth 10 (by decide)] at h
   rw[oth 12 (by decide)]
   exact⟨(hG h).1,(hG h).2.1,(on.block G (hG h).2.2.lt (fun e=>hne h l11 (Option.some.inj e))).trans (hG h).2.2⟩
 ·intro l a w hall hI
  obtain⟨hw,G,H,hG,hH,hne⟩:=hI.world
  have all:∀ j,j<14→l j=true:=fun j hj=>hall j (by rw[hsz];exact hj)
  obtain⟨g1,g2,g3⟩:=hG (all 10 (by decide))
  obtain⟨h1,h2',h3'⟩:=hH (all 11 (by decide))
  rw[all 12 (by decide)] at g3
  rw[all 13 (by decide)] at h3'
  exact fin a w G H hI.size hI.defers (fun s hs=>hI.kept s fun i hi=>pairD_ne hs) hw g1 h1 g3 h3'
end
section
open Go.Sort hiding Below
theorem grsame_walk (R S:Int)(La La':Option Addr)(ml Lc Lc':Nat)(L L':SL)(Y Y':Nat→Nat→SL)(m:AdV)(w:World)(hA:AdAt w L Y m)(hB:AdAt w L' Y' m)(e1:L.a=La)(e2:L'.a=La')(hml:m.ln=ml)(hu:ml≤4611686018427387904) :
  Calls Tryz.prog 18 #[.agg #[.int .i64 R,.int .i64 S,.slice La ml Lc],.agg #[.int .i64 R,.int .i64 S,.slice La' ml Lc']] w fun e w'=>e=.returned (.bool true)∧Below w.heap.size w w':=by
 have hb:=bNw (bNw (Below.refl w.heap.size w) (.cells #[.int .i64 R,.int .i64 S,.slice La ml Lc] 30)) (.cells #[.int .i64 R,.int .i64 S,.slice La' ml Lc'] 30)
 have qa:Blk 30 ((w.alloc (.cells #[.int .i64 R,.int .i64 S,.slice La ml Lc] 30)).alloc (.cells #[.int .i64 R,.int .i64 S,.slice La' ml Lc'] 30)) w.heap.size #[.int .i64 R,.int .i64 S,.slice La ml Lc]:=(Blk.new 30 w _).kept (bNw (Below.refl _ _) _)
 have qb:Blk 30 ((w.alloc (.cells #[.int .i64 R,.int .i64 S,.slice La ml Lc] 30)).alloc (.cells #[.int .i64 R,.int .i64 S,.slice La' ml Lc'] 30)) (w.heap.size+1) #[.int .i64 R,.int .i64 S,.slice La' ml Lc']:=Blk.new_at 30 (w.alloc _) _ _ (by simp)
 obtain⟨a0,a1,a2⟩:=qa.c3
 obtain⟨b0,b1,b2⟩:=qb.c3
 have HA:=hdn hA
 have HB:=hdn hB
 have HL:=hdn (And.intro e1 (And.intro e2 hml))
 clear hA hB e1 e2 hml
 go_enter Tryz.func18,Tryz.ntmps18
 go_wp2
 have HV:=hdn (And.intro hb (And.intro qa qb))
 clear hb qa qb a0 a1 a2 b0 b1 b2
 go_loopw [5,6,7] (fun i _ _ wr=>∃ k:Nat,k≤ml∧i=.int .i64 k∧Below w.heap.size w wr∧Blk 30 wr w.heap.size #[.int .i64 R,.int .i64 S,.slice La ml Lc]∧Blk 30 wr (w.heap.size+1) #[.int .i64 R,.int .i64 S,.slice La' ml Lc']) (fun i _ _ _=>ml-(intOf i).toNat)
 case atStart=>exact⟨0,Nat.zero_le _,rfl,HV.out.1,HV.out.2.1,HV.out.2.2⟩
 case round =>
  clear HV
  obtain⟨k,hk,rfl,hb,qa,qb⟩:=hrel
  obtain⟨a0,a1,a2⟩:=qa.c3
  obtain⟨b0,b1,b2⟩:=qb.c3
  by_cases hlt:k<ml
  ·have hlt':(k:Int)<(ml:Int):=by omega
   have hkm:k<m.ln:=by rw[HL.out.2.2];exact hlt
   have mA:=HA.out.below hb
   have mB:=HB.out.below hb
   obtain⟨x0,hx0⟩:=mA.some_ (by omega)
   obtain rfl:La=some x0:=HL.out.1.symm.trans hx0
   obtain⟨x1,hx1⟩:=mB.some_ (by omega)
   obtain rfl:La'=some x1:=HL.out.2.1.symm.trans hx1
   have pa:=mA.cell x0 hx0 k hkm
   have pb:=mB.cell x1 hx1 k hkm
   have HP:=hdn (And.intro pa pb)
   have SM:Hid (∀ j,j<4→∀ W,Below w.heap.size w W→Calls Tryz.prog 37 #[.slice (Y k j).a (Y k j).n (Y k j).c,.slice (Y' k j).a (Y' k j).n (Y' k j).c] W fun e w'=>e=.returned (.bool true)∧∃ m,w'=W.drewN m):=fun j hj W hW =>
    grsame_call _ _ _ _ _ _ _ W ((HA.out.below hW).lay k hkm j hj).reads ((HB.out.below hW).lay k hkm j hj).reads
   have HQ:=hdn (And.intro hb (And.intro qa qb))
   clear mA mB pa pb hb qa qb
   go_wp2
   refine pair_region w.heap.size (w.heap.size+1) k ml Lc Lc' x0 x1 (Y k) (Y' k) (by kernel_rfl) rfl ⟨_,rfl,rfl,rfl,rfl,by kernel_rfl⟩ ⟨_,rfl,rfl,rfl,rfl,by kernel_rfl⟩ ⟨_,rfl,rfl,rfl,rfl,by kernel_rfl⟩ ⟨_,rfl,rfl,rfl,rfl,by kernel_rfl⟩ ⟨_,rfl,rfl,rfl,rfl,by kernel_rfl⟩ ⟨_,rfl,rfl,rfl,rfl,by kernel_rfl⟩ ⟨_,rfl,rfl,rfl,rfl,by kernel_rfl⟩ ⟨_,rfl,rfl,rfl,rfl,by kernel_rfl⟩ ⟨_,rfl,rfl,rfl,rfl,by kernel_rfl⟩ ⟨_,rfl,rfl,rfl,rfl,by kernel_rfl⟩ ⟨_,rfl,rfl,rfl,rfl,by kernel_rfl⟩ ⟨_,rfl,rfl,rfl,rfl,by kernel_rfl⟩ ⟨_,rfl,rfl,rfl,rfl,by kernel_rfl⟩ ⟨_,rfl,rfl,rfl,rfl,by kernel_rfl⟩ rfl rfl rfl (Nat.le_of_ble_eq_true rfl) hlt hu a2 b2 HP.out.1 HP.out.2 ?_
   intro a W6 G H hs hd hkp hb5 eG eH qG qH
   have hb6:=bTn HQ.out.1 hb5
   have qa:=HQ.out.2.1.kept hb5
   have qb:=HQ.out.2.2.kept hb5
   have ep:=fPu [6,7,36,37,38,39,40,41,42,43,44,45] hs hd (fun s h=>hkp s (by simp at h;omega))
   simp only[List.foldl] at ep
   rw[eG,eH] at ep
   clear hs hd hkp eG eH a0 a1 a2 b0 b1 b2 hb5
   generalize a.tmps.getD 36 undef=g36,a.tmps.getD 37 undef=g37,a.tmps.getD 38 undef=g38,a.tmps.getD 39 undef=g39,a.tmps.getD 40 undef=g40,a.tmps.getD 41 undef=g41,a.tmps.getD 42 undef=g42,a.tmps.getD 43 undef=g43,a.tmps.getD 44 undef=g44,a.tmps.getD 45 undef=g45 at ep
   simp only[Act.put,List.setIfInBounds_toArray,List.set_cons_succ,List.set_cons_zero] at ep
   subst ep
   have S0:=hdn (SM.out 0 (by decide))
   have S1:=hdn (SM.out 1 (by decide))
   have S2:=hdn (SM.out 2 (by decide))
   have S3:=hdn (SM.out 3 (by decide))
   obtain⟨y0,y1,y2,y3⟩:=qG.c4
   obtain⟨z0,z1,z2,z3⟩:=qH.c4
   go_wp2_with (first
    | (go_at_call 37;refine (S0.out _ hb6).mono ?_;rintro e W7 ⟨rfl,hd⟩;clear S0;replace qG:=qG.kept (bDr (Below.refl _ _) hd);replace qa:=qa.kept (bDr (Below.refl _ _) hd);replace qb:=qb.kept (bDr (Below.refl _ _) hd);replace qH:=qH.kept (bDr (Below.refl _ _) hd);replace hb6:=bDr hb6 hd;clear hd y0 y1 y2 y3 z0 z1 z2 z3;obtain⟨y0,y1,y2,y3⟩:=qG.c4;obtain⟨z0,z1,z2,z3⟩:=qH.c4)
    | (go_at_call 37;refine (S1.out _ hb6).mono ?_;rintro e W8 ⟨rfl,hd⟩;clear S1;replace qG:=qG.kept (bDr (Below.refl _ _) hd);replace qa:=qa.kept (bDr (Below.refl _ _) hd);replace qb:=qb.kept (bDr (Below.refl _ _) hd);replace qH:=qH.kept (bDr (Below.refl _ _) hd);replace hb6:=bDr hb6 hd;clear hd y0 y1 y2 y3 z0 z1 z2 z3;obtain⟨y0,y1,y2,y3⟩:=qG.c4;obtain⟨z0,z1,z2,z3⟩:=qH.c4)
    | (go_at_call 37;refine (S2.out _ hb6).mono ?_;rintro e W9 ⟨rfl,hd⟩;clear S2;replace qG:=qG.kept (bDr (Below.refl _ _) hd);replace qa:=qa.kept (bDr (Below.refl _ _) hd);replace qb:=qb.kept (bDr (Below.refl _ _) hd);replace qH:=qH.kept (bDr (Below.refl _ _) hd);replace hb6:=bDr hb6 hd;clear hd y0 y1 y2 y3 z0 z1 z2 z3;obtain⟨y0,y1,y2,y3⟩:=qG.c4;obtain⟨z0,z1,z2,z3⟩:=qH.c4)
    | (go_at_call 37;refine (S3.out _ hb6).mono ?_;rintro e W10 ⟨rfl,hd⟩;clear S3;replace qG:=qG.kept (bDr (Below.refl _ _) hd);replace qa:=qa.kept (bDr (Below.refl _ _) hd);replace qb:=qb.kept (bDr (Below.refl _ _) hd);replace qH:=qH.kept (bDr (Below.refl _ _) hd);replace hb6:=bDr hb6 hd;clear hd y0 y1 y2 y3 z0 z1 z2 z3;obtain⟨y0,y1,y2,y3⟩:=qG.c4;obtain⟨z0,z1,z2,z3⟩:=qH.c4))
   go_roundw
   case rel=>exact⟨k+1,by omega,by go_num,hb6,qa,qb⟩
   case measure=>simp[intOf];omega
  ·have e:k=ml:=by omega
   subst e
   have nlt:¬(k:Int)<(k:Int):=by omega
   go_wp2
   go_ret
   exact⟨rfl,hb⟩
theorem sameA_call (R S:Int)(L L':SL)(Y Y':Nat→Nat→SL)(m:AdV)(w:World)(hA:AdAt w L Y m)(hB:AdAt w L' Y' m)(hu:m.ln≤4611686018427387904) :
  Calls Tryz.prog 18 #[.agg #[.int .i64 R,.int .i64 S,.slice L.a L.n L.c],.agg #[.int .i64 R,.int .i64 S,.slice L'.a L'.n L'.c]] w fun e w'=>e=.returned (.bool true)∧Below w.heap.size w w':=by
 have:=grsame_walk R S L.a L'.a m.ln L.c L'.c L L' Y Y' m w hA hB rfl rfl rfl hu
 rw[hA.len,hB.len]
 exact this
end
end Go.Proofs.YthliomlmhfjhnaaGreat

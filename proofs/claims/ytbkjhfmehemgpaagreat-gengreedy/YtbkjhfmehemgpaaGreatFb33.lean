/- Texts put together. -/
import Derived.Test.YtbkjhfmehemgpaaGreatFb30
import Derived.Test.YtbkjhfmehemgpaaGreatFb18
namespace Go.Proofs.YtbkjhfmehemgpaaGreat
set_option maxRecDepth 20000
set_option maxHeartbeats 16000000
open Go.ChangeShapes Go.WideShapes Go.ChangeAt Go.RowKit
set_option linter.unusedVariables false
set_option linter.unusedSimpArgs false
theorem Only.new {xb b:Nat}{w0 w w':World}(h:Only xb w0 w)(hb:w0.heap.size≤b)(k:Only b w w'):Only xb w0 w' :=
 ⟨k.os.trans h.os,k.tape.trans h.tape,k.output.trans h.output,Nat.le_trans h.size k.size,fun i hi hn=>(k.block i (Nat.lt_of_lt_of_le hi h.size) (fun e=>by have:=Option.some.inj e;omega)).trans (h.block i hi hn)⟩
theorem Only.drew_ {xb:Nat}{w0 w:World}(h:Only xb w0 w):Only xb w0 { w with drawn:=w.drawn+1 }:=⟨h.os,h.tape,h.output,h.size,h.block⟩
theorem Blk.only {t:TypeId}{w w':World}{b g:Nat}{cs:Array Value}(q:Blk t w b cs)(o:Only g w w')(h:b≠g):Blk t w' b cs:=(o.block b q.lt (fun k=>h (by simpa using k))).trans q
theorem CutAt.lt {w:World}{xb sb N T:Nat}{ws:List Int}(h:CutAt w xb sb N ws T):xb<w.heap.size:=by obtain⟨y,c,q,_⟩:=h;exact q.lt
theorem CutAt.keeps {w w':World}{xb sb N T:Nat}{ws:List Int}(h:CutAt w xb sb N ws T)(o:Only xb w w'){t:TypeId}(ht:t≠114):Keeps t w w':=by obtain⟨y,c,q,_⟩:=h;exact Keeps.of_only o q ht
def firR (xb sb N:Nat)(ws:List Int)(cnt:Nat→Nat)(w0:World)(l:Nat→Bool)(a:Act)(w:World):Prop:=Only xb w0 w∧CutAt w xb sb N ws (offs cnt (if l 6=true then 1 else 0))∧(l 9=true→l 8=true)
theorem Inv.none_' {N:Nat}{D:Nat→Option Nat}{a0:Act}{R:(Nat→Bool)→Act→World→Prop}{F:(Nat→Bool)→Nat→Value→World→Prop}{l:Nat→Bool}{a:Act}{w:World}(h:Inv N D a0 R F l a w){i:Nat}{w':World}(hD:D i=none)(hR:R (fun j=>l j || j==i) a w')(mono:∀ j d,j<N→D j=some d→l j=true→j≠i→F l j (a.tmps.getD d undef) w→F (fun j=>l j || j==i) j (a.tmps.getD d undef) w') :
  Inv N D a0 R F (fun j=>l j || j==i) a w':=by
 refine⟨h.size,h.defers,h.kept,hR,fun j d' hj hDj hl=>?_⟩
 have e:j≠i:=fun e=>by rw[e,hD] at hDj;cases hDj
 have hl':l j=true:=by simpa [e] using hl
 exact mono j d' hj hDj hl' e (h.val j d' hj hDj hl')
theorem first_region {id:Nat}{ops:Array Oper}{Q:Exit→Act→World→Prop}{a0:Act}{w0:World}(d h l v u x t n:Int)(xb cb sb N:Nat)(ws:List Int)(cnt:Nat→Nat)(hB:lowB ops=true)(hsz:ops.size=10)
  (o0:OpAt ops 0 (some 27) (.load 23 (.tmp 2)) []) (o1:OpAt ops 1 (some 28) (.move (.tmp 7)) []) (o2:OpAt ops 2 (some 29) (.fieldAddr 23 (.tmp 2) 3) []) (o3:OpAt ops 3 (some 30) (.load 3 (.tmp 29)) [2]) (o4:OpAt ops 4 (some 31) (.move (.tmp 6)) []) (o5:OpAt ops 5 (some 32) (.binOp .mul 3 (.tmp 30) (.tmp 31) 3) [3,4])
  (o6:OpAt ops 6 (some 33) (.call { callee:=.value (.func 61),args:=#[.tmp 28,.tmp 32],argTypes:=#[112,3] }) [1,5]) (o7:OpAt ops 7 (some 34) (.build 34 #[(0,.tmp 27),(1,.tmp 33)]) [0,6]) (o8:OpAt ops 8 (some 8) (.alloc 34) []) (o9:OpAt ops 9 none (.store 34 (.tmp 8) (.tmp 34)) [7,8])
  (hmul:∀ w,(binOp .mul 3 (.int .i64 v) (.int .i64 d)).run Tryz.prog w=.ok (.int .i64 (cnt 0:Int)) w) (q:Blk 23 w0 cb #[.int .i64 d,.int .i64 h,.int .i64 l,.int .i64 v,.int .i64 u,.int .i64 x,.int .i64 t,.int .i64 n]) (h2:a0.tmps.getD 2 undef=.pointer (some ⟨cb,0,none⟩)) (h7:a0.tmps.getD 7 undef=.pointer (some ⟨xb,0,none⟩)) (h6:a0.tmps.getD 6 undef=.int .i64 d)
  (hc:CutAt w0 xb sb N ws 0) (hfit:cnt 0≤N) (hN:N≤100000) (hsb:sb≠xb) (hcx:cb≠xb) (hsl:sb<w0.heap.size) (hs:35≤a0.tmps.size)
  (fin:∀ a w b (s:SL),a.tmps.size=a0.tmps.size→a.defers=a0.defers→(∀ k,(∀ i,i<10→firD i≠some k)→a.tmps.getD k undef=a0.tmps.getD k undef)→a.tmps.getD 8 undef=.pointer (some ⟨b,0,none⟩)→w0.heap.size≤b→Blk 34 w b (firM d h l v u x t n s)→TS w0.heap.size w s (seg cnt ws 0)→CutAt w xb sb N ws (offs cnt 1)→Only xb w0 w→Q .normal a w):(Code.region id ops true).wp Tryz.prog Q a0 w0:=by
 have hrun:∀ args w,(callFunc 61 args).run Tryz.prog w=.ok (.enter 61 args) w:=enters Tryz.func61 (by kernel_rfl) rfl
 have hxl:=hc.lt
 refine wp_region_inv (by kernel_rfl) hB (Inv 10 firD a0 (firR xb sb N ws cnt w0) (firF d h l v u x t n (cnt 0:Int) xb cb w0.heap.size (seg cnt ws 0))) (Inv.start ⟨(Only.refl xb w0).drew_,by obtain⟨y,c,q1,q2,q3,q4⟩:=hc;exact⟨y,c,q1,q2,⟨q3.len,q3.max,q3.wf,q3.some_,q3.cell⟩,q4⟩,fun h=>by cases h⟩) ?_ ?_
 ·intro l' i o a w ho hl hdep hI
  have hi:i<10:=by rw[←hsz];exact (Array.getElem?_eq_some_iff.1 ho).1
  obtain⟨honly,hcut,d9⟩:=hI.world
  have hsB:=honly.size
  have inj:∀ d,firD i=some d→∀ j d',j<10→firD j=some d'→j≠i→d'≠d:=fun d hd j d' hj hd' hne e=>hne (firD_inj j hj i hi (by rw[hd,hd',e]) (by rw[hd'];simp))
  have ev:∀ (s:Nat),a.eval (.tmp s)=a.tmps.getD s undef:=fun _=>rfl
  have ke:∀ s,(∀ i,i<10→firD i≠some s)→a.eval (.tmp s)=a0.tmps.getD s undef:=fun s hs=>hI.kept s hs
  have qc:Blk 23 w cb #[.int .i64 d,.int .i64 h,.int .i64 l,.int .i64 v,.int .i64 u,.int .i64 x,.int .i64 t,.int .i64 n]:=q.only honly hcx
  have l6:i≠6→(l' 6 || 6==i)=l' 6:=fun h=>by rw[show (6==i)=false by simp;omega,Bool.or_false]
  have l9:i≠9→(l' 9 || 9==i)=l' 9:=fun h=>by rw[show (9==i)=false by simp;omega,Bool.or_false]
  have newW:∀ {d' v' w'},firD i=some d'→d'<35→i≠6→i≠9→Below w.heap.size w w'→(firF d h l v u x t n (cnt 0:Int) xb cb w0.heap.size (seg cnt ws 0)) (fun j=>l' j || j==i) i v' w'→Inv 10 firD a0 (firR xb sb N ws cnt w0) (firF d h l v u x t n (cnt 0:Int) xb cb w0.heap.size (seg cnt ws 0)) (fun j=>l' j || j==i) (a.put (some d') v') w':=fun hD hd n6 n9 hw hF=>hI.put hi hD (by omega) (inj _ hD) ⟨honly.trans (Only.of_below hw),by simp only[l6 n6];exact hcut.below hw,fun h=>by have h':l' 9=true:=(by simpa only[l9 n9] using h);simp[d9 h']⟩ hF fun j u _ _ _ hf=>firF_step hf (l9 n9) (Keeps.of_below hw) (Keeps.of_below hw)
  have pure_:∀ {d' v'},firD i=some d'→d'<35→i≠6→i≠9→(firF d h l v u x t n (cnt 0:Int) xb cb w0.heap.size (seg cnt ws 0)) (fun j=>l' j || j==i) i v' w→Inv 10 firD a0 (firR xb sb N ws cnt w0) (firF d h l v u x t n (cnt 0:Int) xb cb w0.heap.size (seg cnt ws 0)) (fun j=>l' j || j==i) (a.put (some d') v') w:=fun hD hd n6 n9 hF=>newW hD hd n6 n9 (Below.refl _ _) hF
  rcases (show i=0∨i=1∨i=2∨i=3∨i=4∨i=5∨i=6∨i=7∨i=8∨i=9 by omega) with rfl|rfl|rfl|rfl|rfl|rfl|rfl|rfl|rfl|rfl
  ·obtain⟨o',e1,e2,e3,e4,e5⟩:=o0
   obtain rfl:=sOp ho e1
   have dp:=dep_of (ops:=ops) e5 hdep
   refine wVa (v:=.agg #[.int .i64 d,.int .i64 h,.int .i64 l,.int .i64 v,.int .i64 u,.int .i64 x,.int .i64 t,.int .i64 n]) (w':=w) ho e4 ?_ (by rw[e2];exact pure_ rfl (by decide) (by decide) (by decide) rfl)
   simp[execOp,e3,ke 2 (by decide),h2,run_load23 qc]
  ·obtain⟨o',e1,e2,e3,e4,e5⟩:=o1
   obtain rfl:=sOp ho e1
   have dp:=dep_of (ops:=ops) e5 hdep
   refine wVa (v:=.pointer (some ⟨xb,0,none⟩)) (w':=w) ho e4 ?_ (by rw[e2];exact pure_ rfl (by decide) (by decide) (by decide) rfl)
   simp[execOp,e3,ke 7 (by decide),h7]
  ·obtain⟨o',e1,e2,e3,e4,e5⟩:=o2
   obtain rfl:=sOp ho e1
   have dp:=dep_of (ops:=ops) e5 hdep
   refine wVa (v:=.pointer (some ⟨cb,3,none⟩)) (w':=w) ho e4 ?_ (by rw[e2];exact pure_ rfl (by decide) (by decide) (by decide) rfl)
   simp[execOp,e3,ke 2 (by decide),h2,(run_cfg3 qc).1]
  ·obtain⟨o',e1,e2,e3,e4,e5⟩:=o3
   obtain rfl:=sOp ho e1
   have dp:=dep_of (ops:=ops) e5 hdep
   have ev1:a.tmps.getD 29 undef=.pointer (some ⟨cb,3,none⟩):=hI.val 2 29 (by decide) rfl (dp 2 (by decide))
   refine wVa (v:=.int .i64 v) (w':=w) ho e4 ?_ (by rw[e2];exact pure_ rfl (by decide) (by decide) (by decide) rfl)
   simp[execOp,e3,ev,ev1,(run_cfg3 qc).2]
  ·obtain⟨o',e1,e2,e3,e4,e5⟩:=o4
   obtain rfl:=sOp ho e1
   have dp:=dep_of (ops:=ops) e5 hdep
   refine wVa (v:=.int .i64 d) (w':=w) ho e4 ?_ (by rw[e2];exact pure_ rfl (by decide) (by decide) (by decide) rfl)
   simp[execOp,e3,ke 6 (by decide),h6]
  ·obtain⟨o',e1,e2,e3,e4,e5⟩:=o5
   obtain rfl:=sOp ho e1
   have dp:=dep_of (ops:=ops) e5 hdep
   have ev1:a.tmps.getD 30 undef=.int .i64 v:=hI.val 3 30 (by decide) rfl (dp 3 (by decide))
   have ev2:a.tmps.getD 31 undef=.int .i64 d:=hI.val 4 31 (by decide) rfl (dp 4 (by decide))
   refine wVa (v:=.int .i64 (cnt 0:Int)) (w':=w) ho e4 ?_ (by rw[e2];exact pure_ rfl (by decide) (by decide) (by decide) rfl)
   simp[execOp,e3,ev,ev1,ev2,hmul,eqGuard]
  ·obtain⟨o',e1,e2,e3,e4,e5⟩:=o6
   obtain rfl:=sOp ho e1
   have dp:=dep_of (ops:=ops) e5 hdep
   have ev1:a.tmps.getD 28 undef=.pointer (some ⟨xb,0,none⟩):=hI.val 1 28 (by decide) rfl (dp 1 (by decide))
   have ev2:a.tmps.getD 32 undef=.int .i64 (cnt 0:Int):=hI.val 5 32 (by decide) rfl (dp 5 (by decide))
   have hcut':CutAt w xb sb N ws (offs cnt 0):=by rw[hl] at hcut;exact hcut
   refine wCa (f:=61) (args:=#[.pointer (some ⟨xb,0,none⟩),.int .i64 (cnt 0:Int)]) ho e4 ?_ ((next_seg (k:=0) hcut' (by show offs cnt 0+cnt 0≤N;show 0+cnt 0≤N;omega) hN hsb).mono fun e w' hh=>?_)
   ·simp[execOp,e3,resolve,invoke,ev,ev1,ev2,Deferred.ofValue,hrun,show a.eval (.func 61)=.func (.func 61) #[] #[] from rfl]
   ·obtain⟨s,g1,g2,g3,g4⟩:=hh
    refine⟨_,g1,?_⟩
    rw[e2]
    exact hI.put hi rfl (by omega) (inj _ rfl) ⟨honly.trans g4,by simpa using g3,fun h=>by have h':l' 9=true:=(by simpa using h);simp[d9 h']⟩ ⟨s,rfl,g2.le hsB⟩ fun j u' _ _ _ hf=>firF_step hf (l9 (by decide)) (hcut'.keeps g4 (by decide)) (hcut'.keeps g4 (by decide))
  ·obtain⟨o',e1,e2,e3,e4,e5⟩:=o7
   obtain rfl:=sOp ho e1
   have dp:=dep_of (ops:=ops) e5 hdep
   have ev1:a.tmps.getD 27 undef=.agg #[.int .i64 d,.int .i64 h,.int .i64 l,.int .i64 v,.int .i64 u,.int .i64 x,.int .i64 t,.int .i64 n]:=hI.val 0 27 (by decide) rfl (dp 0 (by decide))
   obtain⟨s,ev2,ts⟩:=hI.val 6 33 (by decide) rfl (dp 6 (by decide))
   refine wVa (v:=.agg (firM d h l v u x t n s)) (w':=w) ho e4 ?_ (by rw[e2];exact pure_ rfl (by decide) (by decide) (by decide) ⟨s,rfl,ts⟩)
   simp[execOp,e3,ev,ev1,ev2,run_build29,firM]
  ·obtain⟨o',e1,e2,e3,e4,e5⟩:=o8
   obtain rfl:=sOp ho e1
   have dp:=dep_of (ops:=ops) e5 hdep
   have nd9:l' 9=false:=by
    cases h9:l' 9 with
    | false=>rfl
    | true=>exact absurd (d9 h9) (by rw[hl];simp)
   refine wVa (v:=.pointer (some ⟨w.heap.size,0,none⟩)) (w':=w.alloc (.cells zeroC 34)) ho e4 ?_ (by rw[e2];exact newW rfl (by decide) (by decide) (by decide) (bNw (Below.refl _ _) _) ⟨_,rfl,hsB,fun _=>Blk.new 34 w zeroC,fun h=>by simp[nd9] at h⟩)
   simp[execOp,e3,run_alloc29]
  ·obtain⟨o',e1,e2,e3,e4,e5⟩:=o9
   obtain rfl:=sOp ho e1
   have dp:=dep_of (ops:=ops) e5 hdep
   obtain⟨b,ev1,hbB,hq,-⟩:=hI.val 8 8 (by decide) rfl (dp 8 (by decide))
   obtain⟨s,ev2,ts⟩:=hI.val 7 34 (by decide) rfl (dp 7 (by decide))
   have hq':=hq hl
   obtain⟨w',hrn,hq2,honly'⟩:=run_store34m hq' d h l v u x t n s
   have k46:Keeps 118 w w':=Keeps.of_only honly' hq' (by decide)
   refine wSk (w':=w') ho e4 ?_ ?_
   ·simp[execOp,e3,ev,ev1,ev2,hrn,firM]
   ·rw[e2]
    refine hI.none_' rfl ⟨honly.new hbB honly',by simp only[l6 (show (9:Nat)≠6 by decide)];exact hcut.only honly' (by omega) (by omega),fun _=>by simp[dp 8 (by decide)]⟩ fun j d' hj hDj hlj hne hf=>?_
    rcases (show j=0∨j=1∨j=2∨j=3∨j=4∨j=5∨j=6∨j=7∨j=8 by omega) with rfl|rfl|rfl|rfl|rfl|rfl|rfl|rfl|rfl
    ·exact hf
    ·exact hf
    ·exact hf
    ·exact hf
    ·exact hf
    ·exact hf
    ·obtain⟨s',f1,f2⟩:=hf
     exact⟨s',f1,f2.step k46⟩
    ·obtain⟨s',f1,f2⟩:=hf
     exact⟨s',f1,f2.step k46⟩
    ·obtain rfl:=Option.some.inj hDj
     exact⟨b,ev1,hbB,(fun h=>by simp at h),fun _=>⟨s,hq2,ts.step k46⟩⟩
 ·intro l' a w hall hI
  obtain⟨b,e1,e2,_,e4⟩:=hI.val 8 8 (by decide) rfl (hall 8 (by omega))
  obtain⟨s,e5,e6⟩:=e4 (hall 9 (by omega))
  obtain⟨g1,g2,_⟩:=hI.world
  rw[if_pos (hall 6 (by omega))] at g2
  exact fin a w b s hI.size hI.defers hI.kept e1 e2 e5 e6 g2 g1
structure AdV where
 ln:Nat
 f:Nat→Nat→List Int
structure AdAt (w:World) (L:SL) (Y:Nat→Nat→SL) (m:AdV):Prop where
 len:L.n=m.ln
 some_:0<m.ln→∃ x,L.a=some x
 nil:L.a=none→L.c=0
 cap:L.n≤L.c
 cell:∀ x,L.a=some x→∀ i,i<m.ln→∀ j,j<4→w.cell? ((x.add (i*4)).add j)=some (Y i j).v
 lay:∀ i,i<m.ln→∀ j,j<4→IsS w (Y i j) (m.f i j)
theorem AdAt.below {w w':World}{L:SL}{Y:Nat→Nat→SL}{m:AdV}(h:AdAt w L Y m)(hb:Below w.heap.size w w'):AdAt w' L Y m :=
 ⟨h.len,h.some_,h.nil,h.cap,fun x hx i hi j hj=>(hb.cell (World.block_lt_of_cell? w _ (h.cell x hx i hi j hj))).trans (h.cell x hx i hi j hj),fun i hi j hj=>(h.lay i hi j hj).below hb⟩
def NewA (base:Nat)(w:World)(L:SL)(Y:Nat→Nat→SL)(m:AdV):Prop:=∀ w',From base w w'→AdAt w' L Y m
theorem NewA.from_ {base:Nat}{w w':World}{L:SL}{Y:Nat→Nat→SL}{m:AdV}(h:NewA base w L Y m)(hf:From base w w'):NewA base w' L Y m:=fun w'' hc=>h w'' (hf.trans hc)
theorem NewA.only {base q:Nat}{w w':World}{L:SL}{Y:Nat→Nat→SL}{m:AdV}(h:NewA base w L Y m)(o:Only q w w')(hq:q<base):NewA base w' L Y m:=h.from_ (From.of_only o hq)
theorem NewA.le {base base':Nat}{w:World}{L:SL}{Y:Nat→Nat→SL}{m:AdV}(h:NewA base w L Y m)(hb:base'≤base):NewA base' w L Y m :=
 fun w'' hc=>h w'' fun p v hp hle=>hc p v hp (Nat.le_trans hb hle)
def noA:AdV:=⟨0,fun _ _=>[]⟩
theorem NewA.none_ (base:Nat)(w:World)(Y:Nat→Nat→SL):NewA base w ⟨none,0,0⟩ Y noA:=fun w' _=>⟨rfl,(fun h=>by cases h),fun _=>rfl,Nat.le_refl _,(fun x hx=>by cases hx),(fun i hi=>by cases hi)⟩
def cells4 (Y:Nat→Nat→SL)(n:Nat):List Value:=(List.range n).flatMap fun i=>(List.range 4).map fun r=>(Y i r).v
theorem cells4_succ (Y:Nat→Nat→SL)(n:Nat):cells4 Y (n+1)=cells4 Y n++(List.range 4).map fun r=>(Y n r).v:=by simp[cells4,List.range_succ]
theorem cells4_len (Y:Nat→Nat→SL)(n:Nat):(cells4 Y n).length=n*4:=by
 induction n with
 | zero=>rfl
 | succ n ih=>rw[cells4_succ,List.length_append,ih];simp;omega
theorem cells4_at (Y:Nat→Nat→SL)(n i r:Nat)(hi:i<n)(hr:r<4):(cells4 Y n)[i*4+r]? = some (Y i r).v:=by
 induction n with
 | zero=>omega
 | succ n ih =>
  rw[cells4_succ]
  have hl:=cells4_len Y n
  by_cases e:i=n
  ·subst e
   rw[List.getElem?_append_right (by omega),hl,show i*4+r-i*4=r by omega]
   simp[hr]
  ·rw[List.getElem?_append_left (by omega)]
   exact ih (by omega)
theorem cells4_congr {Y Y':Nat→Nat→SL}{n:Nat}(h:∀ i,i<n→∀ r,r<4→Y i r=Y' i r):cells4 Y n=cells4 Y' n:=by
 induction n with
 | zero=>rfl
 | succ n ih =>
  rw[cells4_succ,cells4_succ,ih fun i hi=>h i (by omega)]
  congr 1
  exact List.map_congr_left fun r hr=>by rw[h n (by omega) r (List.mem_range.1 hr)]
structure TA (B:Nat) (w:World) (v:Value) (n:Nat) (Y:Nat→Nat→SL) (f:Nat→Nat→List Int):Prop where
 own:w.ownsRow B 63 4 v n (cells4 Y n)
 lay:∀ i,i<n→∀ j,j<4→TS B w (Y i j) (f i j)
theorem TA.nil (B:Nat)(w:World)(Y:Nat→Nat→SL)(f:Nat→Nat→List Int):TA B w (.slice none 0 0) 0 Y f:=⟨World.ownsRow_nil _ _ _ _,fun j hj=>by omega⟩
theorem TA.below {B:Nat}{w w':World}{v:Value}{n:Nat}{Y:Nat→Nat→SL}{f:Nat→Nat→List Int}(h:TA B w v n Y f)(hb:Below w.heap.size w w'):TA B w' v n Y f:=⟨(Keeps.of_below hb).own h.own,fun i hi j hj=>(h.lay i hi j hj).step (Keeps.of_below hb)⟩
theorem TA.new {B:Nat}{w:World}{v:Value}{Y:Nat→Nat→SL}{m:AdV}(h:TA B w v m.ln Y m.f):∃ L:SL,v=L.v∧NewA B w L Y m:=by
 rcases h.own.2 with⟨e,e'⟩|⟨g,cap,cur,e,hg,hh,hcap,hm,_⟩
 ·exact⟨⟨none,0,0⟩,e,fun w' hf=>⟨e'.symm,(fun h=>by omega),fun _=>rfl,Nat.le_refl _,(fun x hx=>by cases hx),fun i hi j hj=>(h.lay i hi j hj).new w' hf⟩⟩
 ·refine⟨⟨some ⟨g,0,none⟩,m.ln,cap⟩,e,fun w' hf=>⟨rfl,fun _=>⟨_,rfl⟩,(fun h=>by cases h),hcap,fun x hx i hi j hj=>?_,fun i hi j hj=>(h.lay i hi j hj).new w' hf⟩⟩
  obtain rfl:=Option.some.inj hx
  have ho:=h.own
  rw[e] at ho
  have c:=ho.cells (g:=g) rfl (i*4+j) (Y i j).v (cells4_at Y m.ln i j hi hj)
  rw[Addr.add_add]
  refine hf _ _ c ?_
  have e2:((⟨g,0,none⟩:Addr).add (i*4+j)).block=g:=by unfold Addr.add;split<;>rfl
  omega
theorem info63:(Tryz.prog.info? 63).map (fun i=>(i.zero,i.size,i.bytes))=some (some (.agg #[nilS,nilS,nilS,nilS]),4,96):=by kernel_rfl
theorem i63':∃ i,Tryz.prog.info? 63=some i∧i.zero=some (.agg #[nilS,nilS,nilS,nilS])∧i.size=4∧i.bytes=96:=by
 have:=info63
 cases h:Tryz.prog.info? 63 with
 | none=>rw[h] at this;cases this
 | some i=>rw[h] at this;simp at this;exact⟨i,rfl,this.1,this.2.1,this.2.2⟩
def okA (R S:Int)(d h l v u x t n:Int):Bool:=okB d h l v u x t n && (decide (1≤R) && (decide (R≤4) && (decide (0≤S) && decide (S≤8))))
def lensA (R d:Int)(m:AdV):Bool:=(List.range m.ln).all fun i=>(List.range 4).all fun j=>decide (((m.f i j).length:Int)=R*d)
theorem lensA_iff {R d:Int}{m:AdV}:lensA R d m=true↔∀ i,i<m.ln→∀ j,j<4→((m.f i j).length:Int)=R*d:=by
 unfold lensA
 simp only[List.all_eq_true,List.mem_range,decide_eq_true_eq]
def checkA (R S d h l v u x t n:Int)(m:AdV):Int:=if okA R S d h l v u x t n=true then (if (m.ln:Int)=l∧lensA R d m=true then 0 else 21) else 20
theorem run_cfg4 {w:World}{cb:Nat}{d h l v u x t n:Int}(q:Blk 23 w cb #[.int .i64 d,.int .i64 h,.int .i64 l,.int .i64 v,.int .i64 u,.int .i64 x,.int .i64 t,.int .i64 n]):(Instr.fieldAt 23 (.pointer (some ⟨cb,0,none⟩)) 4).run Tryz.prog w=.ok (.pointer (some ⟨cb,4,none⟩)) w∧(Instr.loadAt 3 (.pointer (some ⟨cb,4,none⟩))).run Tryz.prog w=.ok (.int .i64 u) w:=by
 obtain⟨c0,c1,c2,c3,c4,c5,c6,c7⟩:=q.cfg
 constructor
 ·go_simp
 ·go_simp
theorem run_load59 {w:World}{p:Addr}{a:Option Addr}{n c:Nat}(h:w.cell? p=some (.slice a n c)):(Instr.loadAt 59 (.pointer (some p))).run Tryz.prog w=.ok (.slice a n c) w:=by
 go_simp
theorem run_store59 {w:World}{p:Addr}{u:Value}{a:Option Addr}{n c:Nat}(h:w.cell? p=some u)(hf:w.frozen? p=false):(Instr.storeAt 59 (.pointer (some p)) (.slice a n c)).run Tryz.prog w=.ok () (w.setCell p (.slice a n c)):=by
 go_simp
theorem run_build57 (w:World)(a:Option Addr)(n c:Nat):(Instr.buildSlice 59 1 #[(0,.slice a n c)]).run Tryz.prog w=.ok (.slice (some ⟨w.heap.size,0,none⟩) 1 1) (w.alloc (.cells #[.slice a n c] 31)):=by
 go_simp
def KeepsBut (t:TypeId)(r:Option Nat)(w w':World):Prop:=∀ (b:Nat) (cur:Array Value) (fz:Nat × Nat),some b≠r→w.heap[b]? = some (Obj.cells cur t fz)→w'.heap[b]? = some (Obj.cells cur t fz)
theorem KeepsBut.then_ {t:TypeId}{r:Option Nat}{w w' w'':World}(h:KeepsBut t r w w')(k:Keeps t w' w''):KeepsBut t r w w'':=fun b cur fz hb e=>k b cur fz (h b cur fz hb e)
theorem KeepsBut.trans {t:TypeId}{r:Option Nat}{w w' w'':World}(h:KeepsBut t r w w')(k:KeepsBut t r w' w''):KeepsBut t r w w'':=fun b cur fz hb e=>k b cur fz hb (h b cur fz hb e)
theorem KeepsBut.of_grown {t:TypeId}{r:Option Nat}{w w':World}(h:w.grownBy w' r):KeepsBut t r w w':=fun b cur fz hb e=>(h.block b (Array.getElem?_eq_some_iff.1 e).1 hb).trans e
theorem KeepsBut.own {t:TypeId}{r:Option Nat}{w w':World}{B n sz:Nat}{v:Value}{xs:List Value}(h:KeepsBut t r w w')(hv:∀ g,v.ownBlock=some g→r≠some g)(ho:w.ownsRow B t sz v n xs):w'.ownsRow B t sz v n xs:=by
 refine⟨ho.1,?_⟩
 rcases ho.2 with h2|⟨g,cap,cur,e,hg,hh,r'⟩
 ·exact .inl h2
 ·exact .inr ⟨g,cap,cur,e,hg,h g cur (0,0) (fun k=>hv g (by rw[e];rfl) k.symm) hh,r'⟩
theorem Only.grown {xb:Nat}{w0 w w':World}{r:Option Nat}(h:Only xb w0 w)(k:w.grownBy w' r)(hr:∀ g,r=some g→w0.heap.size≤g):Only xb w0 w' :=
 ⟨k.os.trans h.os,k.tape.trans h.tape,k.output.trans h.output,Nat.le_trans h.size k.size,fun i hi hn=>(k.block i (Nat.lt_of_lt_of_le hi h.size) (fun e=>by have:=hr i e.symm;omega)).trans (h.block i hi hn)⟩
theorem TG.slice {B:Nat}{w:World}{v:Value}{k:Nat}{R:Nat→SL}{Z:Nat→List Int}(h:TG B w v k R Z):∃ a n c,v=.slice a n c:=by
 rcases h.own.2 with⟨e,_⟩|⟨g,cap,cur,e,_⟩
 ·exact⟨_,_,_,e⟩
 ·exact⟨_,_,_,e⟩
theorem CutAt.grown {w w':World}{xb sb N T:Nat}{ws:List Int}{r:Option Nat}(h:CutAt w xb sb N ws T)(o:w.grownBy w' r)(h1:r≠some xb)(h2:r≠some sb):CutAt w' xb sb N ws T:=by
 obtain⟨y,c,q,e,rd,l⟩:=h
 refine⟨y,c,(o.block xb q.lt (fun k=>h1 k.symm)).trans q,e,⟨rd.len,rd.max,rd.wf,rd.some_,fun x hx i hi=>?_⟩,l⟩
 have c:=rd.cell x hx i hi
 have eb:(x.add i).block=x.block:=by unfold Addr.add;split<;>rfl
 have hlt:=World.block_lt_of_cell? _ _ c
 obtain rfl:=Option.some.inj hx
 exact (World.cell?_of_block (o.block _ hlt (fun k=>h2 (by rw[←k,eb,e])))).trans c
def OB (V:Value)(w0:World)(v':Value):Prop:=v'.ownBlock=V.ownBlock∨∃ b,w0.heap.size≤b∧v'.ownBlock=some b
structure NetR (xb sb lb f N K k B:Nat) (ws:List Int) (cnt:Nat→Nat) (cs:Array Value) (V:Value) (R:Nat→SL) (Z:Nat→List Int) (WR w0:World) (l:Nat→Bool) (w:World):Prop where
 only:Only xb WR w
 cut:CutAt w xb sb N ws (offs cnt (if l 7=true then K+1 else K))
 tg:l 9=false→TG B w V k R Z
 pre:l 11=false→Blk 61 w lb cs
 post:l 11=true→∃ v' S,Blk 61 w lb (cs.setIfInBounds f v')∧TG B w v' (k+1) (upd R k S) Z∧OB V w0 v'
 k46:Keeps 118 w0 w
 k26:KeepsBut 31 V.ownBlock w0 w
 d11:l 11=true→l 9=true
 d9:l 9=true→l 1=true
 size:w0.heap.size≤w.heap.size
theorem NetR.step {xb sb lb f N K k B:Nat}{ws:List Int}{cnt:Nat→Nat}{cs:Array Value}{V:Value}{R:Nat→SL}{Z:Nat→List Int}{WR w0:World}{l l':Nat→Bool}{w w':World}(h:NetR xb sb lb f N K k B ws cnt cs V R Z WR w0 l w)(k46:Keeps 118 w w')(k26:Keeps 31 w w')(k59:Keeps 61 w w')(o:Only xb w w')
  (hc:CutAt w' xb sb N ws (offs cnt (if l' 7=true then K+1 else K))) (e9:l' 9=l 9) (e11:l' 11=l 11) (e1:l 1=true→l' 1=true):NetR xb sb lb f N K k B ws cnt cs V R Z WR w0 l' w' :=
 ⟨h.only.trans o,hc,fun h9=>(h.tg (by rw[←e9];exact h9)).step k46 k26,fun h11=>k59.blk (h.pre (by rw[←e11];exact h11)),fun h11=>by
  obtain⟨v',S,q1,q2,q3⟩:=h.post (by rw[←e11];exact h11)
  exact⟨v',S,k59.blk q1,q2.step k46 k26,q3⟩,h.k46.trans k46,h.k26.then_ k26,fun h11=>by rw[e9];exact h.d11 (by rw[←e11];exact h11),fun h9=>e1 (h.d9 (by rw[←e9];exact h9)),Nat.le_trans h.size o.size⟩
def netD (b i:Nat):Option Nat:=if i<11 then some (b+i) else none
theorem netD_inj (b:Nat):∀ i,i<12→∀ j,j<12→∀ d,netD b i=some d→netD b j=some d→i=j:=by
 intro i hi j hj d h1 h2
 unfold netD at h1 h2
 split at h1
 ·split at h2
  ·simp at h1 h2;omega
  ·cases h2
 ·cases h1
theorem netD_low {b s:Nat}(h:s<b)(i:Nat):netD b i≠some s:=by
 intro e
 unfold netD at e
 split at e
 ·simp at e;omega
 ·cases e
def netFU (d u UD:Int)(xb cb lb f k B:Nat)(V:Value)(R:Nat→SL)(Z:Nat→List Int)(w0:World)(i:Nat)(q:Value)(w:World):Prop:=match i with
 | 0=>q=.pointer (some ⟨lb,f,none⟩)
 | 1=>q=V
 | 2=>q=.pointer (some ⟨xb,0,none⟩)
 | 3=>q=.pointer (some ⟨cb,4,none⟩)
 | 4=>q=.int .i64 u
 | 5=>q=.int .i64 d
 | 6=>q=.int .i64 UD
 | 7=>∃ S:SL,q=.slice S.a S.n S.c∧TS B w S (Z k)
 | 8=>∃ (g:Nat) (S:SL),q=.slice (some ⟨g,0,none⟩) 1 1∧w0.heap.size≤g∧Blk 31 w g #[S.v]∧TS B w S (Z k)
 | 9=>∃ S:SL,TG B w q (k+1) (upd R k S) Z∧OB V w0 q
 | 10=>q=.pointer (some ⟨lb,f,none⟩)
 | _=>True
theorem netFU_step {d u UD:Int}{xb cb lb f k B:Nat}{V:Value}{R:Nat→SL}{Z:Nat→List Int}{w0:World}{i:Nat}{q:Value}{w w':World}(h:netFU d u UD xb cb lb f k B V R Z w0 i q w)(k46:Keeps 118 w w')(k26:Keeps 31 w w'):netFU d u UD xb cb lb f k B V R Z w0 i q w':=by
 unfold netFU at h ⊢
 split
 ·exact h
 ·exact h
 ·exact h
 ·exact h
 ·exact h
 ·exact h
 ·exact h
 ·obtain⟨S,e1,e2⟩:=h
  exact⟨S,e1,e2.step k46⟩
 ·obtain⟨g,S,e1,e2,e3,e4⟩:=h
  exact⟨g,S,e1,e2,k26.blk e3,e4.step k46⟩
 ·obtain⟨S,e1,e2⟩:=h
  exact⟨S,e1.step k46 k26,e2⟩
 ·exact h
 ·trivial
theorem net_regionU {id:Nat}{ops:Array Oper}{Q:Exit→Act→World→Prop}{a0:Act}{w0:World}(d h l v u x t n:Int)(b f xb cb sb lb N K k B:Nat)(ws:List Int)(cnt:Nat→Nat)(cs:Array Value)(Va:Option Addr)(Vn Vc:Nat)(R:Nat→SL)(Z:Nat→List Int)(WR:World)(hB:lowB ops=true)(hsz:ops.size=12)
  (o0:OpAt ops 0 (some b) (.fieldAddr 61 (.tmp 10) f) []) (o1:OpAt ops 1 (some (b+1)) (.load 59 (.tmp b)) [0]) (o2:OpAt ops 2 (some (b+2)) (.move (.tmp 7)) []) (o3:OpAt ops 3 (some (b+3)) (.fieldAddr 23 (.tmp 2) 4) []) (o4:OpAt ops 4 (some (b+4)) (.load 3 (.tmp (b+3))) [3]) (o5:OpAt ops 5 (some (b+5)) (.move (.tmp 6)) []) (o6:OpAt ops 6 (some (b+6)) (.binOp .mul 3 (.tmp (b+4)) (.tmp (b+5)) 3) [4,5])
  (o7:OpAt ops 7 (some (b+7)) (.call { callee:=.value (.func 61),args:=#[.tmp (b+2),.tmp (b+6)],argTypes:=#[112,3] }) [2,6]) (o8:OpAt ops 8 (some (b+8)) (.buildSlice 59 1 #[(0,.tmp (b+7))]) [7]) (o9:OpAt ops 9 (some (b+9)) (.call { callee:=.builtin .append,args:=#[.tmp (b+1),.tmp (b+8)],argTypes:=#[59,59] }) [1,8])
  (o10:OpAt ops 10 (some (b+10)) (.fieldAddr 61 (.tmp 10) f) []) (o11:OpAt ops 11 none (.store 59 (.tmp (b+10)) (.tmp (b+9))) [9,10])
  (hmul:∀ w,(binOp .mul 3 (.int .i64 u) (.int .i64 d)).run Tryz.prog w=.ok (.int .i64 (cnt K:Int)) w) (hb10:10<b) (hs:b+11≤a0.tmps.size) (hf:f<9) (q:Blk 23 WR cb #[.int .i64 d,.int .i64 h,.int .i64 l,.int .i64 v,.int .i64 u,.int .i64 x,.int .i64 t,.int .i64 n]) (h2:a0.tmps.getD 2 undef=.pointer (some ⟨cb,0,none⟩)) (h7:a0.tmps.getD 7 undef=.pointer (some ⟨xb,0,none⟩)) (h6:a0.tmps.getD 6 undef=.int .i64 d) (h10:a0.tmps.getD 10 undef=.pointer (some ⟨lb,0,none⟩))
  (hWR:Only xb WR w0) (hc:CutAt w0 xb sb N ws (offs cnt K)) (hfit:offs cnt (K+1)≤N) (hN:N≤100000) (hsb:sb≠xb) (hcx:cb≠xb) (hxl:xb<WR.heap.size) (hsl:sb<WR.heap.size) (hlb:WR.heap.size≤lb) (hBW:WR.heap.size≤B) (hBl:B≤w0.heap.size)
  (ql:Blk 61 w0 lb cs) (hcs:cs[f]? = some (.slice Va Vn Vc)) (hT:TG B w0 (.slice Va Vn Vc) k R Z) (hZ:Z k=seg cnt ws K) (hk:k≤1000)
  (fin:∀ a w v' S,a.tmps.size=a0.tmps.size→a.defers=a0.defers→(∀ s,s<b∨b+11≤s→a.tmps.getD s undef=a0.tmps.getD s undef)→Only xb WR w→CutAt w xb sb N ws (offs cnt (K+1))→Blk 61 w lb (cs.setIfInBounds f v')→TG B w v' (k+1) (upd R k S) Z→OB (.slice Va Vn Vc) w0 v'→Keeps 118 w0 w→KeepsBut 31 (Value.slice Va Vn Vc).ownBlock w0 w→w0.heap.size≤w.heap.size→Q .normal a w):(Code.region id ops true).wp Tryz.prog Q a0 w0:=by
 have hrun:∀ args w,(callFunc 61 args).run Tryz.prog w=.ok (.enter 61 args) w:=enters Tryz.func61 (by kernel_rfl) rfl
 obtain⟨V,eV⟩:∃ V:Value,Value.slice Va Vn Vc=V:=⟨_,rfl⟩
 have hVlt:∀ g,V.ownBlock=some g→B≤g∧g<w0.heap.size:=fun g hg=>hT.own.lt g (by rw[eV];exact hg)
 refine wp_region_inv (by kernel_rfl) hB (Inv 12 (netD b) a0 (fun l _ w=>NetR xb sb lb f N K k B ws cnt cs V R Z WR w0 l w) (fun _=>netFU d u (cnt K:Int) xb cb lb f k B V R Z w0)) (Inv.start ⟨hWR.drew_,by obtain⟨y,c,q1,q2,q3,q4⟩:=hc;exact⟨y,c,q1,q2,⟨q3.len,q3.max,q3.wf,q3.some_,q3.cell⟩,q4⟩,fun _=>by rw[←eV];exact hT.step (fun _ _ _ e=>e) (fun _ _ _ e=>e),fun _=>ql,(fun e=>by cases e),fun _ _ _ e=>e,fun _ _ _ _ e=>e,(fun e=>by cases e),(fun e=>by cases e),Nat.le_refl _⟩) ?_ ?_
 ·intro l' i o a w ho hl hdep hI
  have hi:i<12:=by rw[←hsz];exact (Array.getElem?_eq_some_iff.1 ho).1
  have hR:=hI.world
  have hsB:=hR.size
  have inj:∀ d,netD b i=some d→∀ j d',j<12→netD b j=some d'→j≠i→d'≠d:=fun d hd j d' hj hd' hne e=>hne (netD_inj b j hj i hi d (by rw[hd',e]) hd)
  have ev:∀ (s:Nat),a.eval (.tmp s)=a.tmps.getD s undef:=fun _=>rfl
  have ke:∀ s,s<b→a.eval (.tmp s)=a0.tmps.getD s undef:=fun s hs=>hI.kept s fun i _=>netD_low hs i
  have qc:Blk 23 w cb #[.int .i64 d,.int .i64 h,.int .i64 l,.int .i64 v,.int .i64 u,.int .i64 x,.int .i64 t,.int .i64 n]:=q.only hR.only hcx
  have l9:i≠9→(l' 9 || 9==i)=l' 9:=fun h=>by rw[show (9==i)=false by simp;omega,Bool.or_false]
  have l7:i≠7→(l' 7 || 7==i)=l' 7:=fun h=>by rw[show (7==i)=false by simp;omega,Bool.or_false]
  have l11:i≠11→(l' 11 || 11==i)=l' 11:=fun h=>by rw[show (11==i)=false by simp;omega,Bool.or_false]
  have newW:∀ {d' v' w'},netD b i=some d'→d'<b+11→i≠7→i≠9→i≠11→Below w.heap.size w w'→netFU d u (cnt K:Int) xb cb lb f k B V R Z w0 i v' w'→Inv 12 (netD b) a0 (fun l _ w=>NetR xb sb lb f N K k B ws cnt cs V R Z WR w0 l w) (fun _=>netFU d u (cnt K:Int) xb cb lb f k B V R Z w0) (fun j=>l' j || j==i) (a.put (some d') v') w':=fun hD hd n7 n9 n11 hw hF=>hI.put hi hD (by omega) (inj _ hD) (hR.step (Keeps.of_below hw) (Keeps.of_below hw) (Keeps.of_below hw) (Only.of_below hw) (by simp only[l7 n7];exact hR.cut.below hw) (l9 n9) (l11 n11) (fun h=>by simp[h])) hF fun j u _ _ _ hf=>netFU_step hf (Keeps.of_below hw) (Keeps.of_below hw)
  have pure_:∀ {d' v'},netD b i=some d'→d'<b+11→i≠7→i≠9→i≠11→netFU d u (cnt K:Int) xb cb lb f k B V R Z w0 i v' w→Inv 12 (netD b) a0 (fun l _ w=>NetR xb sb lb f N K k B ws cnt cs V R Z WR w0 l w) (fun _=>netFU d u (cnt K:Int) xb cb lb f k B V R Z w0) (fun j=>l' j || j==i) (a.put (some d') v') w:=fun hD hd n7 n9 n11 hF=>newW hD hd n7 n9 n11 (Below.refl _ _) hF
  have VAL:∀ j,j<11→l' j=true→netFU d u (cnt K:Int) xb cb lb f k B V R Z w0 j (a.tmps.getD (b+j) undef) w:=fun j hj h=>hI.val j (b+j) (by omega) (by unfold netD;rw[if_pos hj]) h
  rcases (show i=0∨i=1∨i=2∨i=3∨i=4∨i=5∨i=6∨i=7∨i=8∨i=9∨i=10∨i=11 by omega) with rfl|rfl|rfl|rfl|rfl|rfl|rfl|rfl|rfl|rfl|rfl|rfl
  ·obtain⟨o',e1,e2,e3,e4,e5⟩:=o0
   obtain rfl:=sOp ho e1
   have dp:=dep_of (ops:=ops) e5 hdep
   refine wVa (v:=.pointer (some ⟨lb,f,none⟩)) (w':=w) ho e4 ?_ (by rw[e2];exact pure_ rfl (by omega) (by decide) (by decide) (by decide) rfl)
   simp[execOp,e3,ke 10 (by omega),h10,run_field lb f hf]
  ·obtain⟨o',e1,e2,e3,e4,e5⟩:=o1
   obtain rfl:=sOp ho e1
   have dp:=dep_of (ops:=ops) e5 hdep
   have ev1:a.tmps.getD (b+0) undef=.pointer (some ⟨lb,f,none⟩):=VAL 0 (by decide) (dp 0 (by decide))
   have n11:l' 11=false:=by
    cases h11:l' 11 with
    | false=>rfl
    | true=>have:=hR.d9 (hR.d11 h11);rw[hl] at this;cases this
   have cV:=(hR.pre n11).cell f hcs
   refine wVa (v:=.slice Va Vn Vc) (w':=w) ho e4 ?_ (by rw[e2];exact pure_ rfl (by omega) (by decide) (by decide) (by decide) eV)
   simp only[Nat.add_zero] at ev1
   simp[execOp,e3,ev,ev1,run_load59 cV]
  ·obtain⟨o',e1,e2,e3,e4,e5⟩:=o2
   obtain rfl:=sOp ho e1
   have dp:=dep_of (ops:=ops) e5 hdep
   refine wVa (v:=.pointer (some ⟨xb,0,none⟩)) (w':=w) ho e4 ?_ (by rw[e2];exact pure_ rfl (by omega) (by decide) (by decide) (by decide) rfl)
   simp[execOp,e3,ke 7 (by omega),h7]
  ·obtain⟨o',e1,e2,e3,e4,e5⟩:=o3
   obtain rfl:=sOp ho e1
   have dp:=dep_of (ops:=ops) e5 hdep
   refine wVa (v:=.pointer (some ⟨cb,4,none⟩)) (w':=w) ho e4 ?_ (by rw[e2];exact pure_ rfl (by omega) (by decide) (by decide) (by decide) rfl)
   simp[execOp,e3,ke 2 (by omega),h2,(run_cfg4 qc).1]
  ·obtain⟨o',e1,e2,e3,e4,e5⟩:=o4
   obtain rfl:=sOp ho e1
   have dp:=dep_of (ops:=ops) e5 hdep
   have ev1:a.tmps.getD (b+3) undef=.pointer (some ⟨cb,4,none⟩):=VAL 3 (by decide) (dp 3 (by decide))
   refine wVa (v:=.int .i64 u) (w':=w) ho e4 ?_ (by rw[e2];exact pure_ rfl (by omega) (by decide) (by decide) (by decide) rfl)
   simp[execOp,e3,ev,ev1,(run_cfg4 qc).2]
  ·obtain⟨o',e1,e2,e3,e4,e5⟩:=o5
   obtain rfl:=sOp ho e1
   have dp:=dep_of (ops:=ops) e5 hdep
   refine wVa (v:=.int .i64 d) (w':=w) ho e4 ?_ (by rw[e2];exact pure_ rfl (by omega) (by decide) (by decide) (by decide) rfl)
   simp[execOp,e3,ke 6 (by omega),h6]
  ·obtain⟨o',e1,e2,e3,e4,e5⟩:=o6
   obtain rfl:=sOp ho e1
   have dp:=dep_of (ops:=ops) e5 hdep
   have ev1:a.tmps.getD (b+4) undef=.int .i64 u:=VAL 4 (by decide) (dp 4 (by decide))
   have ev2:a.tmps.getD (b+5) undef=.int .i64 d:=VAL 5 (by decide) (dp 5 (by decide))
   refine wVa (v:=.int .i64 (cnt K:Int)) (w':=w) ho e4 ?_ (by rw[e2];exact pure_ rfl (by omega) (by decide) (by decide) (by decide) rfl)
   simp[execOp,e3,ev,ev1,ev2,hmul,eqGuard]
  ·obtain⟨o',e1,e2,e3,e4,e5⟩:=o7
   obtain rfl:=sOp ho e1
   have dp:=dep_of (ops:=ops) e5 hdep
   have ev1:a.tmps.getD (b+2) undef=.pointer (some ⟨xb,0,none⟩):=VAL 2 (by decide) (dp 2 (by decide))
   have ev2:a.tmps.getD (b+6) undef=.int .i64 (cnt K:Int):=VAL 6 (by decide) (dp 6 (by decide))
   have hcut':CutAt w xb sb N ws (offs cnt K):=by have:=hR.cut;rw[hl] at this;exact this
   refine wCa (f:=61) (args:=#[.pointer (some ⟨xb,0,none⟩),.int .i64 (cnt K:Int)]) ho e4 ?_ ((next_seg (k:=K) hcut' hfit hN hsb).mono fun e w' hh=>?_)
   ·simp[execOp,e3,resolve,invoke,ev,ev1,ev2,Deferred.ofValue,hrun,show a.eval (.func 61)=.func (.func 61) #[] #[] from rfl]
   ·obtain⟨s,g1,g2,g3,g4⟩:=hh
    refine⟨_,g1,?_⟩
    rw[e2]
    refine hI.put hi rfl (by omega) (inj _ rfl) (hR.step (hcut'.keeps g4 (by decide)) (hcut'.keeps g4 (by decide)) (hcut'.keeps g4 (by decide)) g4 (by simpa using g3) (l9 (by decide)) (l11 (by decide)) (fun h=>by simp[h])) ⟨s,rfl,?_⟩ fun j u' _ _ _ hf=>netFU_step hf (hcut'.keeps g4 (by decide)) (hcut'.keeps g4 (by decide))
    rw[hZ]
    exact g2.le (Nat.le_trans hBl hsB)
  ·obtain⟨o',e1,e2,e3,e4,e5⟩:=o8
   obtain rfl:=sOp ho e1
   have dp:=dep_of (ops:=ops) e5 hdep
   obtain⟨S,ev1,ts⟩:=VAL 7 (by decide) (dp 7 (by decide))
   refine wVa (v:=.slice (some ⟨w.heap.size,0,none⟩) 1 1) (w':=w.alloc (.cells #[.slice S.a S.n S.c] 31)) ho e4 ?_ (by rw[e2];exact newW rfl (by omega) (by decide) (by decide) (by decide) (bNw (Below.refl _ _) _) ⟨_,S,rfl,hsB,Blk.new 31 w _,ts.below (bNw (Below.refl _ _) _)⟩)
   simp[execOp,e3,ev,ev1,run_build57]
  ·obtain⟨o',e1,e2,e3,e4,e5⟩:=o9
   obtain rfl:=sOp ho e1
   have dp:=dep_of (ops:=ops) e5 hdep
   have ev1:a.tmps.getD (b+1) undef=V:=VAL 1 (by decide) (dp 1 (by decide))
   obtain⟨g,S,ev2,hgB,hgq,ts⟩:=VAL 8 (by decide) (dp 8 (by decide))
   have n11:l' 11=false:=by
    cases h11:l' 11 with
    | false=>rfl
    | true=>have:=hR.d11 h11;rw[hl] at this;cases this
   have tg:=hR.tg hl
   obtain⟨i0,hi0,hz0,hz1,hz2⟩:=i31'
   obtain⟨v',w',hrn,own',hgr,_,hob⟩:=run_append_own_at (P:=Tryz.prog) w B 59 o.type 31 i0 nilS 1 24 Tryz.underlying59 hi0 hz0 hz1 hz2 rfl (by decide) V k _ tg.own ⟨g,0,none⟩ 1 1 [S.v] rfl (fun j u hj=>by
    match j,hj with
    | 0,hj=>simp at hj;subst hj;simpa [Addr.add] using hgq.cell 0 rfl) (fun u hu=>by simp at hu;subst hu;rfl) (by unfold maxLen;omega) (by omega) (Nat.le_trans hBl hsB)
   have k46:Keeps 118 w w':=Keeps.of_own hgr tg.own (by decide)
   have k59:Keeps 61 w w':=Keeps.of_own hgr tg.own (by decide)
   have kb:KeepsBut 31 V.ownBlock w w':=KeepsBut.of_grown hgr
   have hOB:OB V w0 v':=by
    rcases hob with h|h
    ·exact .inl h
    ·exact .inr ⟨_,hsB,h⟩
   have hTG:TG B w' v' (k+1) (upd R k S) Z:=by
    refine⟨?_,fun j hj=>?_⟩
    ·rw[cellsG_succ,upd_same,cellsG_congr (R':=R) (fun j hj=>upd_other R k S (by omega))]
     exact own'
    ·by_cases e:j=k
     ·subst e
      rw[upd_same]
      exact ts.step k46
     ·rw[upd_other R k S e]
      exact (tg.row j (by omega)).step k46
   refine wVa (v:=v') (w':=w') ho e4 ?_ ?_
   ·simp only[execOp,e3,resolve,invoke,builtin,Sem.run_bind,Sem.run_pure,Result.andThen_ok,List.map_toArray,List.map_cons,List.map_nil,ev,ev1,ev2,hrn]
   ·rw[e2]
    refine hI.put hi rfl (by omega) (inj _ rfl) ⟨hR.only.grown hgr (fun g hg=>Nat.le_trans hBW (hVlt g hg).1),?_,(fun h=>by simp at h),fun _=>k59.blk (hR.pre n11),(fun h=>by simp[n11] at h),hR.k46.trans k46,hR.k26.trans kb,(fun h=>by simp),(fun h=>by simp[dp 1 (by decide)]),Nat.le_trans hsB hgr.size⟩ ⟨S,hTG,hOB⟩ fun j u' hj hlj hne hf=>?_
    ·simp only[l7 (show (9:Nat)≠7 by decide)]
     exact hR.cut.grown hgr (fun e=>by have:=(hVlt _ e).1;omega) (fun e=>by have:=(hVlt _ e).1;omega)
    ·rcases (show j=0∨j=1∨j=2∨j=3∨j=4∨j=5∨j=6∨j=7∨j=8∨j=10∨j=11 by omega) with rfl|rfl|rfl|rfl|rfl|rfl|rfl|rfl|rfl|rfl|rfl
     ·exact hf
     ·exact hf
     ·exact hf
     ·exact hf
     ·exact hf
     ·exact hf
     ·exact hf
     ·obtain⟨S',f1,f2⟩:=hf
      exact⟨S',f1,f2.step k46⟩
     ·obtain⟨g',S',f1,f2,f3,f4⟩:=hf
      exact⟨g',S',f1,f2,kb g' _ (0,0) (fun e=>by have:=(hVlt _ e.symm).2;omega) f3,f4.step k46⟩
     ·exact hf
     ·trivial
  ·obtain⟨o',e1,e2,e3,e4,e5⟩:=o10
   obtain rfl:=sOp ho e1
   have dp:=dep_of (ops:=ops) e5 hdep
   refine wVa (v:=.pointer (some ⟨lb,f,none⟩)) (w':=w) ho e4 ?_ (by rw[e2];exact pure_ rfl (by omega) (by decide) (by decide) (by decide) rfl)
   simp[execOp,e3,ke 10 (by omega),h10,run_field lb f hf]
  ·obtain⟨o',e1,e2,e3,e4,e5⟩:=o11
   obtain rfl:=sOp ho e1
   have dp:=dep_of (ops:=ops) e5 hdep
   obtain⟨S,tg,hOB⟩:=VAL 9 (by decide) (dp 9 (by decide))
   have ev2:a.tmps.getD (b+10) undef=.pointer (some ⟨lb,f,none⟩):=VAL 10 (by decide) (dp 10 (by decide))
   obtain⟨sa,sn,sc,ev1⟩:=tg.slice
   have qp:=hR.pre hl
   have hrn:=run_store59 (a:=sa) (n:=sn) (c:=sc) (qp.cell f hcs) (qp.open_ f)
   have on:Only lb w (w.setCell ⟨lb,f,none⟩ (.slice sa sn sc)):=Only.set _ _ _ _
   have k46:Keeps 118 w (w.setCell ⟨lb,f,none⟩ (.slice sa sn sc)):=Keeps.of_only on qp (by decide)
   have k26:Keeps 31 w (w.setCell ⟨lb,f,none⟩ (.slice sa sn sc)):=Keeps.of_only on qp (by decide)
   refine wSk (w':=w.setCell ⟨lb,f,none⟩ (.slice sa sn sc)) ho e4 ?_ ?_
   ·simp[execOp,e3,ev,ev1,ev2,hrn]
   ·rw[e2]
    refine hI.none_ rfl ⟨hR.only.new hlb on,?_,(fun h=>by simp[dp 9 (by decide)] at h),(fun h=>by simp at h),fun _=>⟨_,S,qp.set f (.slice sa sn sc),?_,?_⟩,hR.k46.trans k46,hR.k26.then_ k26,(fun h=>by simp[dp 9 (by decide)]),(fun h=>by simp[hR.d9 (dp 9 (by decide))]),Nat.le_trans hsB on.size⟩ fun j u' hj hlj hne hf=>netFU_step hf k46 k26
    ·simp only[l7 (show (11:Nat)≠7 by decide)]
     exact hR.cut.only on (by omega) (by omega)
    ·rw[ev1] at tg
     exact tg.step k46 k26
    ·rw[ev1] at hOB
     exact hOB
 ·intro l' a w hall hI
  have hR:=hI.world
  obtain⟨v',S,q1,q2,q3⟩:=hR.post (hall 11 (by omega))
  have hcut:=hR.cut
  rw[if_pos (hall 7 (by omega))] at hcut
  exact fin a w v' S hI.size hI.defers (fun s hs'=>hI.kept s fun i hi=>by
   rcases hs' with h|h
   ·exact netD_low h i
   ·intro e
    unfold netD at e
    split at e
    ·simp at e;omega
    ·cases e) hR.only hcut q1 q2 (by rw[eV];exact q3) hR.k46 (by rw[eV];exact hR.k26) hR.size
def netFD (d u UD:Int)(xb cb lb f k B:Nat)(V:Value)(R:Nat→SL)(Z:Nat→List Int)(w0:World)(i:Nat)(q:Value)(w:World):Prop:=match i with
 | 0=>q=.pointer (some ⟨lb,f,none⟩)
 | 1=>q=V
 | 2=>q=.pointer (some ⟨xb,0,none⟩)
 | 3=>q=.int .i64 d
 | 4=>q=.pointer (some ⟨cb,4,none⟩)
 | 5=>q=.int .i64 u
 | 6=>q=.int .i64 UD
 | 7=>∃ S:SL,q=.slice S.a S.n S.c∧TS B w S (Z k)
 | 8=>∃ (g:Nat) (S:SL),q=.slice (some ⟨g,0,none⟩) 1 1∧w0.heap.size≤g∧Blk 31 w g #[S.v]∧TS B w S (Z k)
 | 9=>∃ S:SL,TG B w q (k+1) (upd R k S) Z∧OB V w0 q
 | 10=>q=.pointer (some ⟨lb,f,none⟩)
 | _=>True
theorem netFD_step {d u UD:Int}{xb cb lb f k B:Nat}{V:Value}{R:Nat→SL}{Z:Nat→List Int}{w0:World}{i:Nat}{q:Value}{w w':World}(h:netFD d u UD xb cb lb f k B V R Z w0 i q w)(k46:Keeps 118 w w')(k26:Keeps 31 w w'):netFD d u UD xb cb lb f k B V R Z w0 i q w':=by
 unfold netFD at h ⊢
 split
 ·exact h
 ·exact h
 ·exact h
 ·exact h
 ·exact h
 ·exact h
 ·exact h
 ·obtain⟨S,e1,e2⟩:=h
  exact⟨S,e1,e2.step k46⟩
 ·obtain⟨g,S,e1,e2,e3,e4⟩:=h
  exact⟨g,S,e1,e2,k26.blk e3,e4.step k46⟩
 ·obtain⟨S,e1,e2⟩:=h
  exact⟨S,e1.step k46 k26,e2⟩
 ·exact h
 ·trivial
theorem net_regionD {id:Nat}{ops:Array Oper}{Q:Exit→Act→World→Prop}{a0:Act}{w0:World}(d h l v u x t n:Int)(b f xb cb sb lb N K k B:Nat)(ws:List Int)(cnt:Nat→Nat)(cs:Array Value)(Va:Option Addr)(Vn Vc:Nat)(R:Nat→SL)(Z:Nat→List Int)(WR:World)(hB:lowB ops=true)(hsz:ops.size=12)
  (o0:OpAt ops 0 (some b) (.fieldAddr 61 (.tmp 10) f) []) (o1:OpAt ops 1 (some (b+1)) (.load 59 (.tmp b)) [0]) (o2:OpAt ops 2 (some (b+2)) (.move (.tmp 7)) []) (o3:OpAt ops 3 (some (b+3)) (.move (.tmp 6)) []) (o4:OpAt ops 4 (some (b+4)) (.fieldAddr 23 (.tmp 2) 4) []) (o5:OpAt ops 5 (some (b+5)) (.load 3 (.tmp (b+4))) [4]) (o6:OpAt ops 6 (some (b+6)) (.binOp .mul 3 (.tmp (b+3)) (.tmp (b+5)) 3) [3,5])
  (o7:OpAt ops 7 (some (b+7)) (.call { callee:=.value (.func 61),args:=#[.tmp (b+2),.tmp (b+6)],argTypes:=#[112,3] }) [2,6]) (o8:OpAt ops 8 (some (b+8)) (.buildSlice 59 1 #[(0,.tmp (b+7))]) [7]) (o9:OpAt ops 9 (some (b+9)) (.call { callee:=.builtin .append,args:=#[.tmp (b+1),.tmp (b+8)],argTypes:=#[59,59] }) [1,8])
  (o10:OpAt ops 10 (some (b+10)) (.fieldAddr 61 (.tmp 10) f) []) (o11:OpAt ops 11 none (.store 59 (.tmp (b+10)) (.tmp (b+9))) [9,10])
  (hmul:∀ w,(binOp .mul 3 (.int .i64 d) (.int .i64 u)).run Tryz.prog w=.ok (.int .i64 (cnt K:Int)) w) (hb10:10<b) (hs:b+11≤a0.tmps.size) (hf:f<9) (q:Blk 23 WR cb #[.int .i64 d,.int .i64 h,.int .i64 l,.int .i64 v,.int .i64 u,.int .i64 x,.int .i64 t,.int .i64 n]) (h2:a0.tmps.getD 2 undef=.pointer (some ⟨cb,0,none⟩)) (h7:a0.tmps.getD 7 undef=.pointer (some ⟨xb,0,none⟩)) (h6:a0.tmps.getD 6 undef=.int .i64 d) (h10:a0.tmps.getD 10 undef=.pointer (some ⟨lb,0,none⟩))
  (hWR:Only xb WR w0) (hc:CutAt w0 xb sb N ws (offs cnt K)) (hfit:offs cnt (K+1)≤N) (hN:N≤100000) (hsb:sb≠xb) (hcx:cb≠xb) (hxl:xb<WR.heap.size) (hsl:sb<WR.heap.size) (hlb:WR.heap.size≤lb) (hBW:WR.heap.size≤B) (hBl:B≤w0.heap.size)
  (ql:Blk 61 w0 lb cs) (hcs:cs[f]? = some (.slice Va Vn Vc)) (hT:TG B w0 (.slice Va Vn Vc) k R Z) (hZ:Z k=seg cnt ws K) (hk:k≤1000)
  (fin:∀ a w v' S,a.tmps.size=a0.tmps.size→a.defers=a0.defers→(∀ s,s<b∨b+11≤s→a.tmps.getD s undef=a0.tmps.getD s undef)→Only xb WR w→CutAt w xb sb N ws (offs cnt (K+1))→Blk 61 w lb (cs.setIfInBounds f v')→TG B w v' (k+1) (upd R k S) Z→OB (.slice Va Vn Vc) w0 v'→Keeps 118 w0 w→KeepsBut 31 (Value.slice Va Vn Vc).ownBlock w0 w→w0.heap.size≤w.heap.size→Q .normal a w):(Code.region id ops true).wp Tryz.prog Q a0 w0:=by
 have hrun:∀ args w,(callFunc 61 args).run Tryz.prog w=.ok (.enter 61 args) w:=enters Tryz.func61 (by kernel_rfl) rfl
 obtain⟨V,eV⟩:∃ V:Value,Value.slice Va Vn Vc=V:=⟨_,rfl⟩
 have hVlt:∀ g,V.ownBlock=some g→B≤g∧g<w0.heap.size:=fun g hg=>hT.own.lt g (by rw[eV];exact hg)
 refine wp_region_inv (by kernel_rfl) hB (Inv 12 (netD b) a0 (fun l _ w=>NetR xb sb lb f N K k B ws cnt cs V R Z WR w0 l w) (fun _=>netFD d u (cnt K:Int) xb cb lb f k B V R Z w0)) (Inv.start ⟨hWR.drew_,by obtain⟨y,c,q1,q2,q3,q4⟩:=hc;exact⟨y,c,q1,q2,⟨q3.len,q3.max,q3.wf,q3.some_,q3.cell⟩,q4⟩,fun _=>by rw[←eV];exact hT.step (fun _ _ _ e=>e) (fun _ _ _ e=>e),fun _=>ql,(fun e=>by cases e),fun _ _ _ e=>e,fun _ _ _ _ e=>e,(fun e=>by cases e),(fun e=>by cases e),Nat.le_refl _⟩) ?_ ?_
 ·intro l' i o a w ho hl hdep hI
  have hi:i<12:=by rw[←hsz];exact (Array.getElem?_eq_some_iff.1 ho).1
  have hR:=hI.world
  have hsB:=hR.size
  have inj:∀ d,netD b i=some d→∀ j d',j<12→netD b j=some d'→j≠i→d'≠d:=fun d hd j d' hj hd' hne e=>hne (netD_inj b j hj i hi d (by rw[hd',e]) hd)
  have ev:∀ (s:Nat),a.eval (.tmp s)=a.tmps.getD s undef:=fun _=>rfl
  have ke:∀ s,s<b→a.eval (.tmp s)=a0.tmps.getD s undef:=fun s hs=>hI.kept s fun i _=>netD_low hs i
  have qc:Blk 23 w cb #[.int .i64 d,.int .i64 h,.int .i64 l,.int .i64 v,.int .i64 u,.int .i64 x,.int .i64 t,.int .i64 n]:=q.only hR.only hcx
  have l9:i≠9→(l' 9 || 9==i)=l' 9:=fun h=>by rw[show (9==i)=false by simp;omega,Bool.or_false]
  have l7:i≠7→(l' 7 || 7==i)=l' 7:=fun h=>by rw[show (7==i)=false by simp;omega,Bool.or_false]
  have l11:i≠11→(l' 11 || 11==i)=l' 11:=fun h=>by rw[show (11==i)=false by simp;omega,Bool.or_false]
  have newW:∀ {d' v' w'},netD b i=some d'→d'<b+11→i≠7→i≠9→i≠11→Below w.heap.size w w'→netFD d u (cnt K:Int) xb cb lb f k B V R Z w0 i v' w'→Inv 12 (netD b) a0 (fun l _ w=>NetR xb sb lb f N K k B ws cnt cs V R Z WR w0 l w) (fun _=>netFD d u (cnt K:Int) xb cb lb f k B V R Z w0) (fun j=>l' j || j==i) (a.put (some d') v') w':=fun hD hd n7 n9 n11 hw hF=>hI.put hi hD (by omega) (inj _ hD) (hR.step (Keeps.of_below hw) (Keeps.of_below hw) (Keeps.of_below hw) (Only.of_below hw) (by simp only[l7 n7];exact hR.cut.below hw) (l9 n9) (l11 n11) (fun h=>by simp[h])) hF fun j u _ _ _ hf=>netFD_step hf (Keeps.of_below hw) (Keeps.of_below hw)
  have pure_:∀ {d' v'},netD b i=some d'→d'<b+11→i≠7→i≠9→i≠11→netFD d u (cnt K:Int) xb cb lb f k B V R Z w0 i v' w→Inv 12 (netD b) a0 (fun l _ w=>NetR xb sb lb f N K k B ws cnt cs V R Z WR w0 l w) (fun _=>netFD d u (cnt K:Int) xb cb lb f k B V R Z w0) (fun j=>l' j || j==i) (a.put (some d') v') w:=fun hD hd n7 n9 n11 hF=>newW hD hd n7 n9 n11 (Below.refl _ _) hF
  have VAL:∀ j,j<11→l' j=true→netFD d u (cnt K:Int) xb cb lb f k B V R Z w0 j (a.tmps.getD (b+j) undef) w:=fun j hj h=>hI.val j (b+j) (by omega) (by unfold netD;rw[if_pos hj]) h
  rcases (show i=0∨i=1∨i=2∨i=3∨i=4∨i=5∨i=6∨i=7∨i=8∨i=9∨i=10∨i=11 by omega) with rfl|rfl|rfl|rfl|rfl|rfl|rfl|rfl|rfl|rfl|rfl|rfl
  ·obtain⟨o',e1,e2,e3,e4,e5⟩:=o0
   obtain rfl:=sOp ho e1
   have dp:=dep_of (ops:=ops) e5 hdep
   refine wVa (v:=.pointer (some ⟨lb,f,none⟩)) (w':=w) ho e4 ?_ (by rw[e2];exact pure_ rfl (by omega) (by decide) (by decide) (by decide) rfl)
   simp[execOp,e3,ke 10 (by omega),h10,run_field lb f hf]
  ·obtain⟨o',e1,e2,e3,e4,e5⟩:=o1
   obtain rfl:=sOp ho e1
   have dp:=dep_of (ops:=ops) e5 hdep
   have ev1:a.tmps.getD (b+0) undef=.pointer (some ⟨lb,f,none⟩):=VAL 0 (by decide) (dp 0 (by decide))
   have n11:l' 11=false:=by
    cases h11:l' 11 with
    | false=>rfl
    | true=>have:=hR.d9 (hR.d11 h11);rw[hl] at this;cases this
   have cV:=(hR.pre n11).cell f hcs
   refine wVa (v:=.slice Va Vn Vc) (w':=w) ho e4 ?_ (by rw[e2];exact pure_ rfl (by omega) (by decide) (by decide) (by decide) eV)
   simp only[Nat.add_zero] at ev1
   simp[execOp,e3,ev,ev1,run_load59 cV]
  ·obtain⟨o',e1,e2,e3,e4,e5⟩:=o2
   obtain rfl:=sOp ho e1
   have dp:=dep_of (ops:=ops) e5 hdep
   refine wVa (v:=.pointer (some ⟨xb,0,none⟩)) (w':=w) ho e4 ?_ (by rw[e2];exact pure_ rfl (by omega) (by decide) (by decide) (by decide) rfl)
   simp[execOp,e3,ke 7 (by omega),h7]
  ·obtain⟨o',e1,e2,e3,e4,e5⟩:=o3
   obtain rfl:=sOp ho e1
   have dp:=dep_of (ops:=ops) e5 hdep
   refine wVa (v:=.int .i64 d) (w':=w) ho e4 ?_ (by rw[e2];exact pure_ rfl (by omega) (by decide) (by decide) (by decide) rfl)
   simp[execOp,e3,ke 6 (by omega),h6]
  ·obtain⟨o',e1,e2,e3,e4,e5⟩:=o4
   obtain rfl:=sOp ho e1
   have dp:=dep_of (ops:=ops) e5 hdep
   refine wVa (v:=.pointer (some ⟨cb,4,none⟩)) (w':=w) ho e4 ?_ (by rw[e2];exact pure_ rfl (by omega) (by decide) (by decide) (by decide) rfl)
   simp[execOp,e3,ke 2 (by omega),h2,(run_cfg4 qc).1]
  ·obtain⟨o',e1,e2,e3,e4,e5⟩:=o5
   obtain rfl:=sOp ho e1
   have dp:=dep_of (ops:=ops) e5 hdep
   have ev1:a.tmps.getD (b+4) undef=.pointer (some ⟨cb,4,none⟩):=VAL 4 (by decide) (dp 4 (by decide))
   refine wVa (v:=.int .i64 u) (w':=w) ho e4 ?_ (by rw[e2];exact pure_ rfl (by omega) (by decide) (by decide) (by decide) rfl)
   simp[execOp,e3,ev,ev1,(run_cfg4 qc).2]
  ·obtain⟨o',e1,e2,e3,e4,e5⟩:=o6
   obtain rfl:=sOp ho e1
   have dp:=dep_of (ops:=ops) e5 hdep
   have ev1:a.tmps.getD (b+3) undef=.int .i64 d:=VAL 3 (by decide) (dp 3 (by decide))
   have ev2:a.tmps.getD (b+5) undef=.int .i64 u:=VAL 5 (by decide) (dp 5 (by decide))
   refine wVa (v:=.int .i64 (cnt K:Int)) (w':=w) ho e4 ?_ (by rw[e2];exact pure_ rfl (by omega) (by decide) (by decide) (by decide) rfl)
   simp[execOp,e3,ev,ev1,ev2,hmul,eqGuard]
  ·obtain⟨o',e1,e2,e3,e4,e5⟩:=o7
   obtain rfl:=sOp ho e1
   have dp:=dep_of (ops:=ops) e5 hdep
   have ev1:a.tmps.getD (b+2) undef=.pointer (some ⟨xb,0,none⟩):=VAL 2 (by decide) (dp 2 (by decide))
   have ev2:a.tmps.getD (b+6) undef=.int .i64 (cnt K:Int):=VAL 6 (by decide) (dp 6 (by decide))
   have hcut':CutAt w xb sb N ws (offs cnt K):=by have:=hR.cut;rw[hl] at this;exact this
   refine wCa (f:=61) (args:=#[.pointer (some ⟨xb,0,none⟩),.int .i64 (cnt K:Int)]) ho e4 ?_ ((next_seg (k:=K) hcut' hfit hN hsb).mono fun e w' hh=>?_)
   ·simp[execOp,e3,resolve,invoke,ev,ev1,ev2,Deferred.ofValue,hrun,show a.eval (.func 61)=.func (.func 61) #[] #[] from rfl]
   ·obtain⟨s,g1,g2,g3,g4⟩:=hh
    refine⟨_,g1,?_⟩
    rw[e2]
    refine hI.put hi rfl (by omega) (inj _ rfl) (hR.step (hcut'.keeps g4 (by decide)) (hcut'.keeps g4 (by decide)) (hcut'.keeps g4 (by decide)) g4 (by simpa using g3) (l9 (by decide)) (l11 (by decide)) (fun h=>by simp[h])) ⟨s,rfl,?_⟩ fun j u' _ _ _ hf=>netFD_step hf (hcut'.keeps g4 (by decide)) (hcut'.keeps g4 (by decide))
    rw[hZ]
    exact g2.le (Nat.le_trans hBl hsB)
  ·obtain⟨o',e1,e2,e3,e4,e5⟩:=o8
   obtain rfl:=sOp ho e1
   have dp:=dep_of (ops:=ops) e5 hdep
   obtain⟨S,ev1,ts⟩:=VAL 7 (by decide) (dp 7 (by decide))
   refine wVa (v:=.slice (some ⟨w.heap.size,0,none⟩) 1 1) (w':=w.alloc (.cells #[.slice S.a S.n S.c] 31)) ho e4 ?_ (by rw[e2];exact newW rfl (by omega) (by decide) (by decide) (by decide) (bNw (Below.refl _ _) _) ⟨_,S,rfl,hsB,Blk.new 31 w _,ts.below (bNw (Below.refl _ _) _)⟩)
   simp[execOp,e3,ev,ev1,run_build57]
  ·obtain⟨o',e1,e2,e3,e4,e5⟩:=o9
   obtain rfl:=sOp ho e1
   have dp:=dep_of (ops:=ops) e5 hdep
   have ev1:a.tmps.getD (b+1) undef=V:=VAL 1 (by decide) (dp 1 (by decide))
   obtain⟨g,S,ev2,hgB,hgq,ts⟩:=VAL 8 (by decide) (dp 8 (by decide))
   have n11:l' 11=false:=by
    cases h11:l' 11 with
    | false=>rfl
    | true=>have:=hR.d11 h11;rw[hl] at this;cases this
   have tg:=hR.tg hl
   obtain⟨i0,hi0,hz0,hz1,hz2⟩:=i31'
   obtain⟨v',w',hrn,own',hgr,_,hob⟩:=run_append_own_at (P:=Tryz.prog) w B 59 o.type 31 i0 nilS 1 24 Tryz.underlying59 hi0 hz0 hz1 hz2 rfl (by decide) V k _ tg.own ⟨g,0,none⟩ 1 1 [S.v] rfl (fun j u hj=>by
    match j,hj with
    | 0,hj=>simp at hj;subst hj;simpa [Addr.add] using hgq.cell 0 rfl) (fun u hu=>by simp at hu;subst hu;rfl) (by unfold maxLen;omega) (by omega) (Nat.le_trans hBl hsB)
   have k46:Keeps 118 w w':=Keeps.of_own hgr tg.own (by decide)
   have k59:Keeps 61 w w':=Keeps.of_own hgr tg.own (by decide)
   have kb:KeepsBut 31 V.ownBlock w w':=KeepsBut.of_grown hgr
   have hOB:OB V w0 v':=by
    rcases hob with h|h
    ·exact .inl h
    ·exact .inr ⟨_,hsB,h⟩
   have hTG:TG B w' v' (k+1) (upd R k S) Z:=by
    refine⟨?_,fun j hj=>?_⟩
    ·rw[cellsG_succ,upd_same,cellsG_congr (R':=R) (fun j hj=>upd_other R k S (by omega))]
     exact own'
    ·by_cases e:j=k
     ·subst e
      rw[upd_same]
      exact ts.step k46
     ·rw[upd_other R k S e]
      exact (tg.row j (by omega)).step k46
   refine wVa (v:=v') (w':=w') ho e4 ?_ ?_
   ·simp only[execOp,e3,resolve,invoke,builtin,Sem.run_bind,Sem.run_pure,Result.andThen_ok,List.map_toArray,List.map_cons,List.map_nil,ev,ev1,ev2,hrn]
   ·rw[e2]
    refine hI.put hi rfl (by omega) (inj _ rfl) ⟨hR.only.grown hgr (fun g hg=>Nat.le_trans hBW (hVlt g hg).1),?_,(fun h=>by simp at h),fun _=>k59.blk (hR.pre n11),(fun h=>by simp[n11] at h),hR.k46.trans k46,hR.k26.trans kb,(fun h=>by simp),(fun h=>by simp[dp 1 (by decide)]),Nat.le_trans hsB hgr.size⟩ ⟨S,hTG,hOB⟩ fun j u' hj hlj hne hf=>?_
    ·simp only[l7 (show (9:Nat)≠7 by decide)]
     exact hR.cut.grown hgr (fun e=>by have:=(hVlt _ e).1;omega) (fun e=>by have:=(hVlt _ e).1;omega)
    ·rcases (show j=0∨j=1∨j=2∨j=3∨j=4∨j=5∨j=6∨j=7∨j=8∨j=10∨j=11 by omega) with rfl|rfl|rfl|rfl|rfl|rfl|rfl|rfl|rfl|rfl|rfl
     ·exact hf
     ·exact hf
     ·exact hf
     ·exact hf
     ·exact hf
     ·exact hf
     ·exact hf
     ·obtain⟨S',f1,f2⟩:=hf
      exact⟨S',f1,f2.step k46⟩
     ·obtain⟨g',S',f1,f2,f3,f4⟩:=hf
      exact⟨g',S',f1,f2,kb g' _ (0,0) (fun e=>by have:=(hVlt _ e.symm).2;omega) f3,f4.step k46⟩
     ·exact hf
     ·trivial
  ·obtain⟨o',e1,e2,e3,e4,e5⟩:=o10
   obtain rfl:=sOp ho e1
   have dp:=dep_of (ops:=ops) e5 hdep
   refine wVa (v:=.pointer (some ⟨lb,f,none⟩)) (w':=w) ho e4 ?_ (by rw[e2];exact pure_ rfl (by omega) (by decide) (by decide) (by decide) rfl)
   simp[execOp,e3,ke 10 (by omega),h10,run_field lb f hf]
  ·obtain⟨o',e1,e2,e3,e4,e5⟩:=o11
   obtain rfl:=sOp ho e1
   have dp:=dep_of (ops:=ops) e5 hdep
   obtain⟨S,tg,hOB⟩:=VAL 9 (by decide) (dp 9 (by decide))
   have ev2:a.tmps.getD (b+10) undef=.pointer (some ⟨lb,f,none⟩):=VAL 10 (by decide) (dp 10 (by decide))
   obtain⟨sa,sn,sc,ev1⟩:=tg.slice
   have qp:=hR.pre hl
   have hrn:=run_store59 (a:=sa) (n:=sn) (c:=sc) (qp.cell f hcs) (qp.open_ f)
   have on:Only lb w (w.setCell ⟨lb,f,none⟩ (.slice sa sn sc)):=Only.set _ _ _ _
   have k46:Keeps 118 w (w.setCell ⟨lb,f,none⟩ (.slice sa sn sc)):=Keeps.of_only on qp (by decide)
   have k26:Keeps 31 w (w.setCell ⟨lb,f,none⟩ (.slice sa sn sc)):=Keeps.of_only on qp (by decide)
   refine wSk (w':=w.setCell ⟨lb,f,none⟩ (.slice sa sn sc)) ho e4 ?_ ?_
   ·simp[execOp,e3,ev,ev1,ev2,hrn]
   ·rw[e2]
    refine hI.none_ rfl ⟨hR.only.new hlb on,?_,(fun h=>by simp[dp 9 (by decide)] at h),(fun h=>by simp at h),fun _=>⟨_,S,qp.set f (.slice sa sn sc),?_,?_⟩,hR.k46.trans k46,hR.k26.then_ k26,(fun h=>by simp[dp 9 (by decide)]),(fun h=>by simp[hR.d9 (dp 9 (by decide))]),Nat.le_trans hsB on.size⟩ fun j u' hj hlj hne hf=>netFD_step hf k46 k26
    ·simp only[l7 (show (11:Nat)≠7 by decide)]
     exact hR.cut.only on (by omega) (by omega)
    ·rw[ev1] at tg
     exact tg.step k46 k26
    ·rw[ev1] at hOB
     exact hOB
 ·intro l' a w hall hI
  have hR:=hI.world
  obtain⟨v',S,q1,q2,q3⟩:=hR.post (hall 11 (by omega))
  have hcut:=hR.cut
  rw[if_pos (hall 7 (by omega))] at hcut
  exact fin a w v' S hI.size hI.defers (fun s hs'=>hI.kept s fun i hi=>by
   rcases hs' with h|h
   ·exact netD_low h i
   ·intro e
    unfold netD at e
    split at e
    ·simp at e;omega
    ·cases e) hR.only hcut q1 q2 (by rw[eV];exact q3) hR.k46 (by rw[eV];exact hR.k26) hR.size
theorem set_blk {t:TypeId}{w:World}{b:Nat}{cs cs':Array Value}(q:Blk t w b cs)(i:Nat)(v:Value)(e:cs.setIfInBounds i v=cs'):Blk t (w.setCell ⟨b,i,none⟩ v) b cs':=e ▸ q.set i v
def nine (a b c d e f g h i:SL)(r:Nat):SL:=match r with|0=>a|1=>b|2=>c|3=>d|4=>e|5=>f|6=>g|7=>h|_=>i
section
open Go.ChangeShapes Go.WideShapes Go.ChangeAt Go.RowKit Go.Sort
def segA (N:Nat)(ws:List Int)(q:Nat):List Int:=(ws.drop (q*N)).take N
def grshapeV (ln N:Nat)(ws:List Int):AdV:=⟨ln,fun i j=>segA N ws (4*i+j)⟩
end
section
open Go.Sort hiding Below
def four (a b c d:SL)(r:Nat):SL:=match r with|0=>a|1=>b|2=>c|_=>d
theorem run_push (w : World) (ty : TypeId) (B k : Nat) (v : Value) (Y : Nat → Nat → SL) (f : Nat → Nat → List Int) (y : Nat → SL) (g c : Nat) (hT : TA B w v k Y f) (hc : Blk 63 w g #[(y 0).v, (y 1).v, (y 2).v, (y 3).v]) (hy : ∀ j, j < 4 → TS B w (y j) (f k j)) (hl : (k + 1) * 96 ≤ 140737488355328) (hB : B ≤ w.heap.size) :
    ∃ v' w', (Builtin.append_ #[35, 35] ty #[v, .slice (some ⟨g, 0, none⟩) 1 c]).run Tryz.prog w = .ok v' w' ∧ Below B w w' ∧ Keeps 37 w w' ∧ Keeps 114 w w' ∧ TA B w' v' (k + 1) (upd Y k y) f := by
  obtain ⟨i0, hi, hz0, hz1, hz2⟩ := i63'
  obtain ⟨v', w', hr, own', hg, _, _⟩ := run_append_own_at (P := Tryz.prog) (w := w) B 35 ty 63 i0 _ 4 96 Tryz.underlying35 hi hz0 hz1 hz2 rfl (by decide) v k _ hT.own ⟨g, 0, none⟩ 1 c ((List.range 4).map fun r => (y r).v) (by simp) (fun j u hj => by
    have e : (⟨g, 0, none⟩ : Addr).add j = ⟨g, j, none⟩ := by by_cases h : j = 0 <;> simp [Addr.add, h]
    rw [e]
    exact hc.cell j (by have hj' : [(y 0).v, (y 1).v, (y 2).v, (y 3).v][j]? = some u := hj
                        simpa using hj')) (fun u hu => by obtain ⟨r, _, rfl⟩ := List.mem_map.1 hu; rfl) (by unfold maxLen; omega) hl hB
  have k62 : Keeps 118 w w' := Keeps.of_own hg hT.own (by decide)
  refine ⟨v', w', hr, (Below.refl B w).grown hg hB fun g h => (hT.own.lt g h).1, Keeps.of_own hg hT.own (by decide), Keeps.of_own hg hT.own (by decide), ?_, fun i hi j hj => ?_⟩
  · rw [cells4_succ, upd_same, cells4_congr (Y' := Y) (fun i hi r _ => by rw [upd_other Y k y (by omega)])]
    exact own'
  · by_cases e : i = k
    · subst e
      rw [upd_same]
      exact (hy j hj).step k62
    · rw [upd_other Y k y e]
      exact (hT.lay i (by omega) j hj).step k62
theorem grwpList_layer {ops:Array Oper}{rest:List Oper}{o:Oper}{a:Act}{w:World}{Q:Exit→Act→World→Prop}(hgd:o.guard=none)(s x:Operand)(ho:o.op=.call { callee:=.builtin .append,args:=#[s,x],argTypes:=#[35,35] })
  (B k:Nat) (v:Value) (Y:Nat→Nat→SL) (f:Nat→Nat→List Int) (y:Nat→SL) (g c:Nat) (hs:a.eval s=v) (hx:a.eval x=.slice (some ⟨g,0,none⟩) 1 c) (hT:TA B w v k Y f) (hc:Blk 63 w g #[(y 0).v,(y 1).v,(y 2).v,(y 3).v]) (hy:∀ j,j<4→TS B w (y j) (f k j)) (hl:(k+1)*96≤140737488355328) (hB:B≤w.heap.size)
  (h:∀ v' w',Below B w w'→Keeps 37 w w'→Keeps 114 w w'→TA B w' v' (k+1) (upd Y k y) f→wpList Tryz.prog ops Q rest (a.put o.dst v') w'):wpList Tryz.prog ops Q (o :: rest) a w:=by
 refine wpList_plain hgd fun K hK=>?_
 obtain⟨v',w',hr,h1,h2,h3,h4⟩:=run_push w o.type B k v Y f y g c hT hc hy hl hB
 unfold Oper.wp execOp
 simp only[ho,resolve,invoke,builtin,Sem.run_bind,Sem.run_pure,Result.andThen_ok,List.map_toArray,List.map_cons,List.map_nil,hs,hx,hr]
 exact hK _ _ (h v' w' h1 h2 h3 h4)
end
theorem prompt_false {c:Cq}{zs:List Int}{k:Nat}(hk:k<zs.length)(h:¬(0≤zs.getD k 0∧zs.getD k 0<c.v)):promptZ c zs=false:=by
 unfold promptZ
 rw[Bool.and_eq_false_iff]
 right
 rw[List.all_eq_false]
 refine⟨zs[k],List.getElem_mem hk,?_⟩
 have e:zs.getD k 0=zs[k]:=by simp[hk]
 rw[e] at h
 simp only[Bool.and_eq_true,decide_eq_true_eq]
 exact h
theorem prompt_true {c:Cq}{zs:List Int}(h:∀ j,j<zs.length→0≤zs.getD j 0∧zs.getD j 0<c.v):promptZ c zs=decide (0<zs.length):=by
 unfold promptZ
 rw[show (zs.all fun z=>decide (0≤z) && decide (z<c.v))=true by
  rw[List.all_eq_true]
  intro z hz
  obtain⟨j,hj,rfl⟩:=List.getElem_of_mem hz
  have:=h j hj
  rw[show zs.getD j 0=zs[j] by simp[hj]] at this
  simpa using this,Bool.and_true]
theorem prompt_call (c:Cq)(a:Option Addr)(n m:Nat)(zs:List Int)(w:World)(hr:Reads .i64 w a n zs) :
  Calls Tryz.prog 63 #[c.w,.slice a n m] w fun e w'=>e=.returned (.bool (promptZ c zs))∧Below w.heap.size w w':=by
 have hm:=hr.max
 have hl:=hr.len
 have hb:=bNw (Below.refl w.heap.size w) (.cells c.cs 23)
 have hr':=hr.below hb
 have q0:=Blk.new 23 w c.cs
 obtain⟨c0,c1,c2,c3,c4,c5,c6,c7⟩:=q0.cfg
 obtain⟨W,eW⟩:∃ W,w.alloc (.cells c.cs 23)=W:=⟨_,rfl⟩
 rw[eW] at hb hr' c0 c1 c2 c3 c4 c5 c6 c7
 clear q0
 go_enter Tryz.func63,Tryz.ntmps63
 go_wp2
 go_loopw [9] (fun i wr=>∃ k:Nat,k≤n∧i=.int .i64 k∧wr=W∧∀ j,j<k→0≤zs.getD j 0∧zs.getD j 0<c.v) (fun i _=>n-(intOf i).toNat)
 case atStart=>exact⟨0,Nat.zero_le _,rfl,rfl,fun j hj=>by omega⟩
 case round =>
  obtain⟨k,hk,rfl,hw,hp⟩:=hrel
  subst hw
  by_cases hlt:k<n
  ·obtain⟨x,rfl⟩:=hr.some_ (by omega)
   have cx:=hr'.cell x rfl k hlt
   have pf:=prompt_false (c:=c) (zs:=zs) (k:=k) (by omega)
   have pt:0≤zs.getD k 0→zs.getD k 0<c.v→∀ j,j<k+1→0≤zs.getD j 0∧zs.getD j 0<c.v:=fun z1 z2 j hj=>by
    by_cases e:j=k
    ·subst e;exact⟨z1,z2⟩
    ·exact hp j (by omega)
   obtain⟨Z,eZ⟩:∃ Z,zs.getD k 0=Z:=⟨_,rfl⟩
   rw[eZ] at cx pf pt
   clear eZ hp
   have HP:=hdn (And.intro pf pt)
   clear pf pt
   by_cases z1:Z<0
   ·go_wp2
    go_ret
    exact⟨by rw[HP.out.1 (by omega)];rfl,hb⟩
   ·have z1':0≤Z:=by omega
    by_cases z2:Z<c.v
    ·go_wp2
     go_roundw
     case rel=>exact⟨k+1,by omega,by go_num,trivial,HP.out.2 z1' z2⟩
     case measure=>simp[intOf];omega
    ·have z2':c.v≤Z:=by omega
     go_wp2
     go_ret
     exact⟨by rw[HP.out.1 (by omega)];rfl,hb⟩
  ·have e:k=n:=by omega
   subst e
   have pe:=prompt_true (c:=c) (zs:=zs) (by rw[hl];exact hp)
   rw[hl] at pe
   clear hp
   go_wp2
   go_ret
   refine⟨?_,hb⟩
   rw[pe]
   simp
end Go.Proofs.YtbkjhfmehemgpaaGreat

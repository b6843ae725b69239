/- Texts put together. -/
import Derived.Test.YthliomlmhfjhnaaGreatRows
import Derived.Test.YthliomlmhfjhnaaGreatZf48
import Derived.Test.YthliomlmhfjhnaaGreatZf41
import Derived.Test.YthliomlmhfjhnaaGreatZf42
import Derived.Test.YthliomlmhfjhnaaGreatZf43
import Derived.Test.YthliomlmhfjhnaaGreatZf52
namespace Go.Proofs.YthliomlmhfjhnaaGreat
set_option maxRecDepth 20000
set_option maxHeartbeats 16000000
open Go.ChangeShapes Go.WideShapes Go.ChangeAt Go.RowKit
set_option linter.unusedVariables false
set_option linter.unusedSimpArgs false
section
theorem zero_row {t:TypeId}{W:World}{b:Nat}(q:Blk t W b (Array.replicate 34 (.int .i8 0))):IsS W ⟨some ⟨b,0,none⟩,34,34⟩ zeroW :=
 ⟨⟨rfl,(by show (34:Nat)≤_;omega),fun i=>by
  unfold zeroW
  rw[List.getD_eq_getElem?_getD,List.getElem?_replicate]
  split<;>exact wf_nought _,fun _=>⟨_,rfl⟩,fun x hx i hi=>by
  obtain rfl:=Option.some.inj hx
  have hi':i<34:=hi
  rw[add_at]
  refine q.cell i ?_
  unfold zeroW
  rw[List.getD_eq_getElem?_getD,List.getElem?_replicate,if_pos hi',Array.getElem?_replicate,if_pos hi']
  rfl⟩,(fun h=>by cases h),Nat.le_refl _⟩
theorem make34 (w:World):∃ yb W,(Instr.makeSlice 24 (.int .i64 34) (.int .i64 34)).run Tryz.prog w=.ok (.slice (some ⟨yb,0,none⟩) 34 34) W∧Below w.heap.size w W∧IsS W ⟨some ⟨yb,0,none⟩,34,34⟩ zeroW :=
 ⟨w.heap.size,w.alloc (.cells (Array.replicate 34 (.int .i8 0)) 73),(by
  have h:=run_make_row' 24 73 (.int .i8 0) 1 Tryz.underlying24 info73 rfl .i64 .i64 34 (by omega) (by omega) w
  rw[show madeCells #[(Value.int .i8 0)] 34=Array.replicate 34 (.int .i8 0) from by kernel_rfl] at h
  exact h),bNw (Below.refl _ _) _,zero_row (Blk.new 73 w _)⟩
theorem zero_shape (w:World)(yb:Nat)(hz:IsS w ⟨some ⟨yb,0,none⟩,34,34⟩ zeroW) :
  Calls Tryz.prog 39 #[.agg #[.int .i64 2,.int .i64 1,.int .i64 1,.int .i64 2,.int .i64 1,.int .i64 0,.int .i64 0,.int .i64 0],.slice (some ⟨yb,0,none⟩) 34 34] w fun e w'=>∃ t:MT,e=.returned (.tuple #[.agg #[.int .i64 2,.int .i64 1,.int .i64 1,.int .i64 2,.int .i64 1,.int .i64 0,.int .i64 0,.int .i64 0,.slice t.E.a t.E.n t.E.c,.slice t.L.a t.L.n t.L.c,.slice t.N.a t.N.n t.N.c,.slice t.O.a t.O.n t.O.c],.int .i64 0])∧TMin w.heap.size w'.heap.size w' t zeroV∧Below w.heap.size w w':=by
 have k10:∀ w,Calls Tryz.prog 36 #[.agg #[.int .i64 2,.int .i64 1,.int .i64 1,.int .i64 2,.int .i64 1,.int .i64 0,.int .i64 0,.int .i64 0]] w fun e w'=>e=.returned (.bool true)∧Below w.heap.size w w':=fun w=>by
  have:=refConfig_call 2 1 1 2 1 0 0 0 w
  rw[sm_ok] at this
  exact this
 have k12:∀ w,Calls Tryz.prog 41 #[.agg #[.int .i64 2,.int .i64 1,.int .i64 1,.int .i64 2,.int .i64 1,.int .i64 0,.int .i64 0,.int .i64 0]] w fun e w'=>e=.returned (.int .i64 34)∧Below w.heap.size w w':=fun w=>by
  have:=refSize_call 2 1 1 2 1 0 0 0 w
  rw[show sizeB 2 1 1 2 1 0 0 0=34 by decide +kernel] at this
  exact this
 have hy:yb<w.heap.size:=by
  have:=World.block_lt_of_cell? _ _ (hz.reads.cell ⟨yb,0,none⟩ rfl 0 (by show 0<34;omega))
  rw[add_at] at this
  exact this
 have key:=refShape_typed 1 2 1 0 0 0 2 4 0 2 4 1 34 34 ⟨yb,0,none⟩ zeroW (by decide) (by decide) (by decide) (by decide) (by decide) (by decide) (by decide) (by decide) (by decide) (by decide) (by decide) (by decide) w k10 k12 hz.reads (Nat.le_refl _) (by decide) (by decide +kernel) hy
 refine key.mono fun e w' hh=>?_
 obtain⟨E,L,N,O,Y,U,D,he,ht,hb⟩:=hh
 exact⟨⟨E,L,N,O,Y,U,D⟩,he,TMin.of ht,hb⟩
theorem lit3 (k:IntKind)(w:World)(e:TypeId)(g:Nat)(hg:g=w.heap.size)(a b c:Int)(ha:(Lit.int k a).wf=true)(hb:(Lit.int k b).wf=true)(hc:(Lit.int k c).wf=true) :
  Reads k (w.alloc (.cells #[.int k a,.int k b,.int k c] e)) (some ⟨g,0,none⟩) 3 [a,b,c]:=by
 subst hg
 exact lit_reads k w [a,b,c] e (by simp) (by simp[ha,hb,hc])
theorem works_call (w:World):Calls Tryz.prog 26 #[] w fun e w'=>e=.returned (.bool true)∧Below w.heap.size w w':=by
 have e34:shapeV 2 1 2 1 0 (wtL 1 (szZ 2 1 2 1 0).toNat)=smM.m:=by rw[sm_size];rfl
 have k52:=small_call
 have k19:=fun W=>model_yes 2 1 1 2 1 0 0 0 1 sm_ok W
 have hb:=Below.refl w.heap.size w
 go_enter Tryz.func26,Tryz.ntmps26
 go_wp2_with (first
  | (go_at_call 52;refine (k52 _).mono ?_;rintro e W1 ⟨rfl,h1⟩;replace hb:=bTn hb h1;clear h1 k52)
  | (go_at_call 19;refine (k19 _).mono ?_;rintro e W2 ⟨t1,rfl,hN1,h2⟩;replace hb:=bTn hb h2;obtain⟨W3,eW3⟩:∃ W,W2.alloc (.cells #[.int .i64 2,.int .i64 1,.int .i64 1,.int .i64 2,.int .i64 1,.int .i64 0,.int .i64 0,.int .i64 0,.slice t1.E.a t1.E.n t1.E.c,.slice t1.L.a t1.L.n t1.L.c,.slice t1.N.a t1.N.n t1.N.c,.slice t1.O.a t1.O.n t1.O.c] 27)=W:=⟨_,rfl⟩;have n3:Below W2.heap.size W2 W3:=eW3 ▸ bNw (Below.refl _ _) _;have qm:Blk 27 W3 W2.heap.size #[.int .i64 2,.int .i64 1,.int .i64 1,.int .i64 2,.int .i64 1,.int .i64 0,.int .i64 0,.int .i64 0,.slice t1.E.a t1.E.n t1.E.c,.slice t1.L.a t1.L.n t1.L.c,.slice t1.N.a t1.N.n t1.N.c,.slice t1.O.a t1.O.n t1.O.c]:=eW3 ▸ Blk.new 27 W2 _;have m1:=(hN1.below n3) _ (fun _ _ hp _=>hp);rw[e34] at m1;replace hb:=bTn hb n3;clear h2 hN1 n3 k19))
 refine wo2_region (T:=MT) (V:=fun t=>.agg #[.int .i64 2,.int .i64 1,.int .i64 1,.int .i64 2,.int .i64 1,.int .i64 0,.int .i64 0,.int .i64 0,.slice t.E.a t.E.n t.E.c,.slice t.L.a t.L.n t.L.c,.slice t.N.a t.N.n t.N.c,.slice t.O.a t.O.n t.O.c]) (cs:=fun t=>#[.int .i64 2,.int .i64 1,.int .i64 1,.int .i64 2,.int .i64 1,.int .i64 0,.int .i64 0,.int .i64 0,.slice t.E.a t.E.n t.E.c,.slice t.L.a t.L.n t.L.c,.slice t.N.a t.N.n t.N.c,.slice t.O.a t.O.n t.O.c]) (I:=fun t lo hi w=>TMin lo hi w t zeroV) tm_law zeroW (0) #[.int .i64 0,.int .i64 0,.int .i64 0,.int .i64 0,.int .i64 0,.int .i64 0,.int .i64 0,.int .i64 0,.slice none 0 0,.slice none 0 0,.slice none 0 0,.slice none 0 0] (by kernel_rfl) rfl ⟨_,rfl,rfl,rfl,rfl,by kernel_rfl⟩ ⟨_,rfl,rfl,rfl,rfl,by kernel_rfl⟩ ⟨_,rfl,rfl,rfl,rfl,by kernel_rfl⟩ ⟨_,rfl,rfl,rfl,rfl,by kernel_rfl⟩ ⟨_,rfl,rfl,rfl,rfl,by kernel_rfl⟩ ⟨_,rfl,rfl,rfl,rfl,by kernel_rfl⟩ ⟨_,rfl,rfl,rfl,rfl,by kernel_rfl⟩ ⟨_,rfl,rfl,rfl,rfl,by kernel_rfl⟩ ⟨_,rfl,rfl,rfl,rfl,by kernel_rfl⟩ (fun w hw=>small_call w) make34 (fun w yb hw hz=>zero_shape w yb hz) run_alloc27 (fun w b t q=>run_store27 q smM t.E t.L t.N t.O) (Nat.le_of_ble_eq_true rfl) ?_
 intro a W9 b9 t9 lo9 hi9 hs hd hkp eA eE hb9 gb9 gl9 gh9 hI9 q9
 have ep:=fPu [22,23,24,21,25,26,3,4] hs hd (fun s h=>hkp s (fun i hi e=>h (by
  rcases (show i=0∨i=1∨i=2∨i=3∨i=4∨i=5∨i=6∨i=7∨i=8 by omega) with rfl|rfl|rfl|rfl|rfl|rfl|rfl|rfl|rfl<;>first|(simp only[wo2D,Option.some.injEq] at e;subst e;simp)|(simp only[wo2D] at e;cases e))))
 simp only[List.foldl] at ep
 rw[eA,eE] at ep
 clear hs hd hkp eA eE
 generalize a.tmps.getD 22 undef=g22,a.tmps.getD 23 undef=g23,a.tmps.getD 24 undef=g24,a.tmps.getD 21 undef=g21,a.tmps.getD 25 undef=g25,a.tmps.getD 26 undef=g26 at ep
 simp only[Act.put,List.setIfInBounds_toArray,List.set_cons_succ,List.set_cons_zero] at ep
 subst ep
 obtain⟨g,cap,cur,eL,hg,qg2,qg3,c00,q2,on4,q4,m4⟩:=remade t9 hI9.at q9
 have on3:Only b9 ((W9.alloc (.cells #[.int .i8 64,.int .i8 64] 73)).alloc (.cells #[.int .i8 64,.int .i8 64] 73)) (((W9.alloc (.cells #[.int .i8 64,.int .i8 64] 73)).alloc (.cells #[.int .i8 64,.int .i8 64] 73)).setCell ⟨b9,10,none⟩ (.slice (some ⟨W9.heap.size,0,none⟩) 2 2)):=Only.set b9 10 _ _
 have b2:Below W9.heap.size W9 ((W9.alloc (.cells #[.int .i8 64,.int .i8 64] 73)).alloc (.cells #[.int .i8 64,.int .i8 64] 73)):=bNw (bNw (Below.refl _ _) _) _
 have b4':Below W3.heap.size W3 ((((W9.alloc (.cells #[.int .i8 64,.int .i8 64] 73)).alloc (.cells #[.int .i8 64,.int .i8 64] 73)).setCell ⟨b9,10,none⟩ (.slice (some ⟨W9.heap.size,0,none⟩) 2 2)).setCell ⟨g,0,none⟩ (.slice (some ⟨W9.heap.size+1,0,none⟩) 2 2)):=Only.below (Only.below (bTn hb9 b2) gb9 (Nat.le_trans hb9.size b2.size) on3) (Nat.le_trans gl9 hg) (Nat.le_trans (Nat.le_trans hb9.size b2.size) on3.size) on4
 have x10:((W9.alloc (.cells #[.int .i8 64,.int .i8 64] 73)).alloc (.cells #[.int .i8 64,.int .i8 64] 73)).cell? ⟨b9,10,none⟩=some (.slice t9.N.a t9.N.n t9.N.c):=q2.cell 10 rfl
 have y10:=q2.open_ 10
 have xg:=qg3.cell 0 c00
 have yg:=qg3.open_ 0
 have z9:W9.cell? ⟨b9,9,none⟩=some (.slice t9.L.a t9.L.n t9.L.c):=q9.cell 9 rfl
 rw[eL] at z9
 obtain⟨W5,eW5⟩:∃ W,((((W9.alloc (.cells #[.int .i8 64,.int .i8 64] 73)).alloc (.cells #[.int .i8 64,.int .i8 64] 73)).setCell ⟨b9,10,none⟩ (.slice (some ⟨W9.heap.size,0,none⟩) 2 2)).setCell ⟨g,0,none⟩ (.slice (some ⟨W9.heap.size+1,0,none⟩) 2 2))=W:=⟨_,rfl⟩
 rw[eW5] at q4 m4 b4'
 have m15:=m1.below b4'
 have qm5:=qm.kept b4'
 have hb5:=bTn hb b4'
 rw[eL] at q4
 have eL':=hdn eL
 obtain⟨a0,a1,a2,a3,a4,a5,a6,a7,a8,a9,a10,a11⟩:=q4.c12
 obtain⟨YY,eYY⟩:∃ YY,(fun i j=>if i=0∧j=0 then (⟨some ⟨W9.heap.size+1,0,none⟩,2,2⟩:SL) else t9.Y i j)=YY:=⟨_,rfl⟩
 rw[eYY] at m4
 have k11:=z_step t9.E t9.L ⟨some ⟨W9.heap.size,0,none⟩,2,2⟩ t9.O YY t9.U t9.D W5 m4
 have k23:=fun W xa xc (hW:Below W5.heap.size W5 W) hx=>z_score t9.E t9.L ⟨some ⟨W9.heap.size,0,none⟩,2,2⟩ t9.O YY t9.U t9.D W (m4.below hW) xa xc hx
 rw[eL] at k11
 simp only[eL] at k23
 have k3:=fun W ta tc (hW:Below W5.heap.size W5 W) ht=>sm_run3 t1.E t1.L t1.N t1.O t1.Y t1.U t1.D W (m15.below hW) ta tc ht
 have k1:=fun W ta tc (hW:Below W5.heap.size W5 W) ht=>sm_run1 t1.E t1.L t1.N t1.O t1.Y t1.U t1.D W (m15.below hW) ta tc ht
 have HB:=hdn hb5
 have l0:(rowF smM (tokF [0,1,1]) 0).length=4:=by decide +kernel
 have l1:(rowF smM (tokF [0,1,1]) 1).length=4:=by decide +kernel
 have HL:=hdn (And.intro l0 l1)
 clear m4 b4' hb m1 qm on3 on4 b2 qg2 qg3 q2 hI9 q9 hb9 gb9 gl9 gh9 hg c00 eYY eL m15 hb5 l0 l1 eW3
 go_wp2_with (first
  | (go_at_call 11;refine k11.mono ?_;rintro e W6 ⟨⟨ra,rc,oa,oc,rfl,f1,f2⟩,h6⟩;have q6:=q4.kept h6;have qm6:=qm5.kept h6;clear k11 q4 qm5 a0 a1 a2 a3 a4 a5 a6 a7 a8 a9 a10 a11 x10 y10 xg yg z9 eW5;obtain⟨a0,a1,a2,a3,a4,a5,a6,a7,a8,a9,a10,a11⟩:=q6.c12)
  | (go_at_call 23;refine (k23 _ oa oc h6 f2).mono ?_;rintro e W7 ⟨⟨sa,sc,rfl,f3⟩,h7⟩;have qm7:=qm6.kept h7;replace f1:=f1.below h7;replace f2:=f2.below h7;have b7:=bTn h6 h7;clear k23 q6 qm6 h6 h7 a0 a1 a2 a3 a4 a5 a6 a7 a8 a9 a10 a11;obtain⟨a0,a1,a2,a3,a4,a5,a6,a7,a8,a9,a10,a11⟩:=qm7.c12;have n7:=fun o=>bNw (Below.refl W7.heap.size W7) o;have t7:=lit3 .i64 W7 3 _ rfl 0 1 1 (by decide) (by decide) (by decide))
  | (go_at_call 21;refine (k3 _ _ _ (bTn b7 (n7 _)) t7).mono ?_;rintro e W8 ⟨⟨gxo,gk,u2,k2,A,C,rfl,gr⟩,h8⟩;have b8:=bTn (n7 _) h8;have qm8:=qm7.kept b8;replace f1:=f1.below b8;replace f2:=f2.below b8;replace f3:=f3.below b8;replace b8:=bTn b7 b8;clear k3 qm7 h8 b7 n7 t7 a0 a1 a2 a3 a4 a5 a6 a7 a8 a9 a10 a11;obtain⟨a0,a1,a2,a3,a4,a5,a6,a7,a8,a9,a10,a11⟩:=qm8.c12;have n8:=fun o=>bNw (Below.refl W8.heap.size W8) o;have t8:=lit1 .i64 W8 3 _ rfl 2 (by decide))
  | (go_at_call 21;refine (k1 _ _ _ (bTn b8 (n8 _)) t8).mono ?_;rintro e WE ⟨rfl,h9⟩;have b9':=bTn (n8 _) h9;replace f1:=f1.below b9';replace f2:=f2.below b9';replace f3:=f3.below b9';replace gr:=gr.below b9';replace b9':=bTn b8 b9';clear k1 qm8 h9 b8 n8 t8 a0 a1 a2 a3 a4 a5 a6 a7 a8 a9 a10 a11))
 obtain⟨gx,rfl⟩:=gr.some_ (by omega)
 obtain⟨l0,l1⟩:=HL.out
 have hbE:=bTn HB.out b9'
 refine wo8_region ra oa sa none (A 0) (A 1) rc oc sc gk 4 (C 0) 4 (C 1) gx (fun W=>Below WE.heap.size WE W) (by kernel_rfl) rfl ⟨_,rfl,rfl,rfl,rfl,by kernel_rfl⟩ ⟨_,rfl,rfl,rfl,rfl,by kernel_rfl⟩ ⟨_,rfl,rfl,rfl,rfl,by kernel_rfl⟩ ⟨_,rfl,rfl,rfl,rfl,by kernel_rfl⟩ ⟨_,rfl,rfl,rfl,rfl,by kernel_rfl⟩ ⟨_,rfl,rfl,rfl,rfl,by kernel_rfl⟩ ⟨_,rfl,rfl,rfl,rfl,by kernel_rfl⟩ ⟨_,rfl,rfl,rfl,rfl,by kernel_rfl⟩ ⟨_,rfl,rfl,rfl,rfl,by kernel_rfl⟩ ⟨_,rfl,rfl,rfl,rfl,by kernel_rfl⟩ ⟨_,rfl,rfl,rfl,rfl,by kernel_rfl⟩ ⟨_,rfl,rfl,rfl,rfl,by kernel_rfl⟩ ⟨_,rfl,rfl,rfl,rfl,by kernel_rfl⟩ ⟨_,rfl,rfl,rfl,rfl,by kernel_rfl⟩ ⟨_,rfl,rfl,rfl,rfl,by kernel_rfl⟩ ⟨_,rfl,rfl,rfl,rfl,by kernel_rfl⟩ ⟨_,rfl,rfl,rfl,rfl,by kernel_rfl⟩ ⟨_,rfl,rfl,rfl,rfl,by kernel_rfl⟩ ⟨_,rfl,rfl,rfl,rfl,by kernel_rfl⟩ ⟨_,rfl,rfl,rfl,rfl,by kernel_rfl⟩ ⟨_,rfl,rfl,rfl,rfl,by kernel_rfl⟩ ⟨_,rfl,rfl,rfl,rfl,by kernel_rfl⟩ ⟨_,rfl,rfl,rfl,rfl,by kernel_rfl⟩ ⟨_,rfl,rfl,rfl,rfl,by kernel_rfl⟩ ⟨_,rfl,rfl,rfl,rfl,by kernel_rfl⟩ ⟨_,rfl,rfl,rfl,rfl,by kernel_rfl⟩ ⟨_,rfl,rfl,rfl,rfl,by kernel_rfl⟩ ⟨_,rfl,rfl,rfl,rfl,by kernel_rfl⟩ ⟨_,rfl,rfl,rfl,rfl,by kernel_rfl⟩ ⟨_,rfl,rfl,rfl,rfl,by kernel_rfl⟩ ⟨_,rfl,rfl,rfl,rfl,by kernel_rfl⟩ ⟨_,rfl,rfl,rfl,rfl,by kernel_rfl⟩ ⟨_,rfl,rfl,rfl,rfl,by kernel_rfl⟩ ⟨_,rfl,rfl,rfl,rfl,by kernel_rfl⟩ ⟨_,rfl,rfl,rfl,rfl,by kernel_rfl⟩ ⟨_,rfl,rfl,rfl,rfl,by kernel_rfl⟩ ⟨_,rfl,rfl,rfl,rfl,by kernel_rfl⟩ ⟨_,rfl,rfl,rfl,rfl,by kernel_rfl⟩ ⟨_,rfl,rfl,rfl,rfl,by kernel_rfl⟩ ⟨_,rfl,rfl,rfl,rfl,by kernel_rfl⟩ ⟨_,rfl,rfl,rfl,rfl,by kernel_rfl⟩ ⟨_,rfl,rfl,rfl,rfl,by kernel_rfl⟩ ⟨_,rfl,rfl,rfl,rfl,by kernel_rfl⟩ ⟨_,rfl,rfl,rfl,rfl,by kernel_rfl⟩ ⟨_,rfl,rfl,rfl,rfl,by kernel_rfl⟩ ⟨_,rfl,rfl,rfl,rfl,by kernel_rfl⟩ ⟨_,rfl,rfl,rfl,rfl,by kernel_rfl⟩ ⟨_,rfl,rfl,rfl,rfl,by kernel_rfl⟩ (Below.refl _ _).drew (fun w=>by go_simp) (fun w hw=>⟨w.heap.size,w.alloc (.cells #[.int .i64 0,.int .i64 0,.int .i64 0,.int .i64 0] 2),(by go_simp),bNw (Below.refl _ _) _,bTn hw (bNw (Below.refl _ _) _),lit4 .i64 w 2 _ rfl 0 0 0 0 (by decide) (by decide) (by decide) (by decide)⟩) (fun w yb hw hr=>(same_call ra 4 rc _ _ 4 4 w (f1.below hw) hr).mono fun e w' h=>by obtain⟨h1,m,rfl⟩:=h;exact⟨h1,drewN_below w m,bTn hw (drewN_below w m)⟩) (fun w hw=>⟨w.heap.size,w.alloc (.cells #[.int .i64 0,.int .i64 0] 2),(by go_simp),bNw (Below.refl _ _) _,bTn hw (bNw (Below.refl _ _) _),lit2 .i64 w 2 _ rfl 0 0 (by decide) (by decide)⟩) (fun w yb hw hr=>(same_call oa 2 oc _ _ 2 2 w (f2.below hw) hr).mono fun e w' h=>by obtain⟨h1,m,rfl⟩:=h;exact⟨h1,drewN_below w m,bTn hw (drewN_below w m)⟩) (fun w hw=>⟨w.heap.size,w.alloc (.cells #[.int .i64 0,.int .i64 0] 2),(by go_simp),bNw (Below.refl _ _) _,bTn hw (bNw (Below.refl _ _) _),lit2 .i64 w 2 _ rfl 0 0 (by decide) (by decide)⟩) (fun w yb hw hr=>(same_call sa 2 sc _ _ 2 2 w (f3.below hw) hr).mono fun e w' h=>by obtain⟨h1,m,rfl⟩:=h;exact⟨h1,drewN_below w m,bTn hw (drewN_below w m)⟩) (fun w=>by go_simp) (fun w=>by go_simp) (fun w=>by go_simp) (fun w=>by go_simp) (fun w=>by go_simp) (fun w hw=>run_load34 ((by have h:=(gr.below hw).cell gx rfl 0 (by omega);rw[l0] at h;exact h))) (fun w=>by go_simp) (fun w hw=>run_load34 ((by have h:=(gr.below hw).cell gx rfl 1 (by omega);rw[l1] at h;exact h))) (fun w hw=>(same_no (A 0) 4 (C 0) _ _ (A 1) (C 1) w (by have h:=(gr.below hw).row 0 (by omega);rw[l0] at h;exact h) (by have h:=(gr.below hw).row 1 (by omega);rw[l1] at h;exact h) sm_rows).mono fun e w' h=>by obtain⟨h1,m,rfl⟩:=h;exact⟨h1,drewN_below w m,bTn hw (drewN_below w m)⟩) rfl rfl rfl rfl rfl rfl rfl rfl rfl (Nat.le_of_ble_eq_true rfl) ?_
 intro a WF hs hd hkp hS8 hval
 have e0:a.tmps.getD 0 undef=.bool true:=hval 47 0 (by decide) rfl
 have ep:=fPu [63,64,65,66,67,68,69,70,71,72,73,74,75,76,77,78,79,80,81,82,83,84,85,86,87,88,89,90,91,92,93,94,95,96,97,98,99,100,101,102,103,104,105,106,107,108,109,0] hs hd (fun s h=>hkp s (fun i hi e=>h (by
  rcases (show i=0∨i=1∨i=2∨i=3∨i=4∨i=5∨i=6∨i=7∨i=8∨i=9∨i=10∨i=11∨i=12∨i=13∨i=14∨i=15∨i=16∨i=17∨i=18∨i=19∨i=20∨i=21∨i=22∨i=23∨i=24∨i=25∨i=26∨i=27∨i=28∨i=29∨i=30∨i=31∨i=32∨i=33∨i=34∨i=35∨i=36∨i=37∨i=38∨i=39∨i=40∨i=41∨i=42∨i=43∨i=44∨i=45∨i=46∨i=47 by omega) with rfl|rfl|rfl|rfl|rfl|rfl|rfl|rfl|rfl|rfl|rfl|rfl|rfl|rfl|rfl|rfl|rfl|rfl|rfl|rfl|rfl|rfl|rfl|rfl|rfl|rfl|rfl|rfl|rfl|rfl|rfl|rfl|rfl|rfl|rfl|rfl|rfl|rfl|rfl|rfl|rfl|rfl|rfl|rfl|rfl|rfl|rfl|rfl<;>(simp only[wo8D,Option.some.injEq] at e;subst e;simp))))
 simp only[List.foldl] at ep
 rw[e0] at ep
 have H9:=hdn hS8
 clear hs hd hkp hval hS8 e0
 generalize a.tmps.getD 63 undef=g63,a.tmps.getD 64 undef=g64,a.tmps.getD 65 undef=g65,a.tmps.getD 66 undef=g66,a.tmps.getD 67 undef=g67,a.tmps.getD 68 undef=g68,a.tmps.getD 69 undef=g69,a.tmps.getD 70 undef=g70,a.tmps.getD 71 undef=g71,a.tmps.getD 72 undef=g72,a.tmps.getD 73 undef=g73,a.tmps.getD 74 undef=g74,a.tmps.getD 75 undef=g75,a.tmps.getD 76 undef=g76,a.tmps.getD 77 undef=g77,a.tmps.getD 78 undef=g78,a.tmps.getD 79 undef=g79,a.tmps.getD 80 undef=g80,a.tmps.getD 81 undef=g81,a.tmps.getD 82 undef=g82,a.tmps.getD 83 undef=g83,a.tmps.getD 84 undef=g84,a.tmps.getD 85 undef=g85,a.tmps.getD 86 undef=g86,a.tmps.getD 87 undef=g87,a.tmps.getD 88 undef=g88,a.tmps.getD 89 undef=g89,a.tmps.getD 90 undef=g90,a.tmps.getD 91 undef=g91,a.tmps.getD 92 undef=g92,a.tmps.getD 93 undef=g93,a.tmps.getD 94 undef=g94,a.tmps.getD 95 undef=g95,a.tmps.getD 96 undef=g96,a.tmps.getD 97 undef=g97,a.tmps.getD 98 undef=g98,a.tmps.getD 99 undef=g99,a.tmps.getD 100 undef=g100,a.tmps.getD 101 undef=g101,a.tmps.getD 102 undef=g102,a.tmps.getD 103 undef=g103,a.tmps.getD 104 undef=g104,a.tmps.getD 105 undef=g105,a.tmps.getD 106 undef=g106,a.tmps.getD 107 undef=g107,a.tmps.getD 108 undef=g108,a.tmps.getD 109 undef=g109 at ep
 simp only[Act.put,List.setIfInBounds_toArray,List.set_cons_succ,List.set_cons_zero] at ep
 subst ep
 have hbF:=bTn hbE H9.out
 clear f1 f2 f3 gr l0 l1
 go_wp2
 go_ret
 exact⟨rfl,hbF⟩
end
section
theorem sizes_walk (cd ch cl cv cu cx ct cn s r:Int)(ta:Option Addr)(tn tc:Nat)(tz:List Int)(w:World)(hs:(Lit.int .u64 s).wf=true)(ht:Reads .i64 w ta tn tz) :
  Calls Tryz.prog 8 #[.agg #[.int .i64 cd,.int .i64 ch,.int .i64 cl,.int .i64 cv,.int .i64 cu,.int .i64 cx,.int .i64 ct,.int .i64 cn,.int .u64 s,.int .i64 r,.slice ta tn tc]] w fun e w'=>e=.returned (.bool true)∧Below w.heap.size w w':=by
 have hb:=bNw (Below.refl w.heap.size w) (.cells #[.int .i64 cd,.int .i64 ch,.int .i64 cl,.int .i64 cv,.int .i64 cu,.int .i64 cx,.int .i64 ct,.int .i64 cn,.int .u64 s,.int .i64 r,.slice ta tn tc] 47)
 have qk:=Blk.new 47 w #[.int .i64 cd,.int .i64 ch,.int .i64 cl,.int .i64 cv,.int .i64 cu,.int .i64 cx,.int .i64 ct,.int .i64 cn,.int .u64 s,.int .i64 r,.slice ta tn tc]
 have k26:=works_call
 have htm:=ht.max
 have HT:=hdn ht
 clear ht
 obtain⟨k0,k1,k2,k3,k4,k5,k6,k7,k8,k9,k10⟩:=qk.c11
 cases ok:okB cd ch cl cv cu cx ct cn with
 | false =>
  have k19:=fun W=>model_no cd ch cl cv cu cx ct cn s ok W
  go_enter Tryz.func8,Tryz.ntmps8
  go_wp2_with (first
   | (go_at_call 26;refine (k26 _).mono ?_;rintro e W1 ⟨rfl,h1⟩;replace hb:=bTn hb h1;replace qk:=qk.kept h1;clear h1 k26 k0 k1 k2 k3 k4 k5 k6 k7 k8 k9 k10;obtain⟨k0,k1,k2,k3,k4,k5,k6,k7,k8,k9,k10⟩:=qk.c11)
   | (go_at_call 19;refine (k19 _).mono ?_;rintro e W2 ⟨t1,rfl,hN,h2⟩;replace hb:=bTn hb h2;replace qk:=qk.kept h2;obtain⟨W3,eW3⟩:∃ W,W2.alloc (.cells #[.int .i64 0,.int .i64 0,.int .i64 0,.int .i64 0,.int .i64 0,.int .i64 0,.int .i64 0,.int .i64 0,.slice t1.E.a t1.E.n t1.E.c,.slice t1.L.a t1.L.n t1.L.c,.slice t1.N.a t1.N.n t1.N.c,.slice t1.O.a t1.O.n t1.O.c] 27)=W:=⟨_,rfl⟩;have n3:Below W2.heap.size W2 W3:=eW3 ▸ bNw (Below.refl _ _) _;have qm:Blk 27 W3 W2.heap.size #[.int .i64 0,.int .i64 0,.int .i64 0,.int .i64 0,.int .i64 0,.int .i64 0,.int .i64 0,.int .i64 0,.slice t1.E.a t1.E.n t1.E.c,.slice t1.L.a t1.L.n t1.L.c,.slice t1.N.a t1.N.n t1.N.c,.slice t1.O.a t1.O.n t1.O.c]:=eW3 ▸ Blk.new 27 W2 _;have m1:=(hN.below n3) _ (fun _ _ hp _=>hp);replace hb:=bTn hb n3;replace qk:=qk.kept n3;clear h2 hN n3 k19 k0 k1 k2 k3 k4 k5 k6 k7 k8 k9 k10;obtain⟨k0,k1,k2,k3,k4,k5,k6,k7,k8,k9,k10⟩:=qk.c11))
  go_ret
  exact⟨rfl,hb⟩
 | true =>
  obtain⟨m,em⟩:∃ m,shapeV cd cl cv cu cx (wtL s (szZ cd cl cv cu cx).toNat)=m:=⟨_,rfl⟩
  obtain⟨R,eR⟩:∃ R,adR r=R:=⟨_,rfl⟩
  obtain⟨S,eS⟩:∃ S,adS r s=S:=⟨_,rfl⟩
  obtain⟨ad9,ea⟩:∃ a,adV r cd cl s=a:=⟨_,rfl⟩
  have hE:badE (Md.mk cd ch cl cv cu cx ct cn m R S ad9)=0:=by
   have h9:=made_bad ok s r
   unfold made at h9
   rw[em,eR,eS,ea] at h9
   exact h9
  have k19:=fun W=>model_yes cd ch cl cv cu cx ct cn s ok W
  have k20:=fun W=>adapt_call r cd ch cl cv cu cx ct cn s ok hs W
  simp only[em] at k19
  simp only[eR,eS,ea] at k20
  have K20:=hdn k20
  have HE:=hdn hE
  clear em eR eS ea k20 hE
  by_cases hl:30<tn
  ·have hl':(30:Int)<(tn:Int):=by omega
   go_enter Tryz.func8,Tryz.ntmps8
   go_wp2_with (first
    | (go_at_call 26;refine (k26 _).mono ?_;rintro e W1 ⟨rfl,h1⟩;replace hb:=bTn hb h1;replace qk:=qk.kept h1;clear h1 k26 k0 k1 k2 k3 k4 k5 k6 k7 k8 k9 k10;obtain⟨k0,k1,k2,k3,k4,k5,k6,k7,k8,k9,k10⟩:=qk.c11)
    | (go_at_call 19;refine (k19 _).mono ?_;rintro e W2 ⟨t1,rfl,hN,h2⟩;replace hb:=bTn hb h2;replace qk:=qk.kept h2;obtain⟨W3,eW3⟩:∃ W,W2.alloc (.cells #[.int .i64 cd,.int .i64 ch,.int .i64 cl,.int .i64 cv,.int .i64 cu,.int .i64 cx,.int .i64 ct,.int .i64 cn,.slice t1.E.a t1.E.n t1.E.c,.slice t1.L.a t1.L.n t1.L.c,.slice t1.N.a t1.N.n t1.N.c,.slice t1.O.a t1.O.n t1.O.c] 27)=W:=⟨_,rfl⟩;have n3:Below W2.heap.size W2 W3:=eW3 ▸ bNw (Below.refl _ _) _;have qm:Blk 27 W3 W2.heap.size #[.int .i64 cd,.int .i64 ch,.int .i64 cl,.int .i64 cv,.int .i64 cu,.int .i64 cx,.int .i64 ct,.int .i64 cn,.slice t1.E.a t1.E.n t1.E.c,.slice t1.L.a t1.L.n t1.L.c,.slice t1.N.a t1.N.n t1.N.c,.slice t1.O.a t1.O.n t1.O.c]:=eW3 ▸ Blk.new 27 W2 _;have m1:=(hN.below n3) _ (fun _ _ hp _=>hp);replace hb:=bTn hb n3;replace qk:=qk.kept n3;clear h2 hN n3 k19 k0 k1 k2 k3 k4 k5 k6 k7 k8 k9 k10;obtain⟨k0,k1,k2,k3,k4,k5,k6,k7,k8,k9,k10⟩:=qk.c11))
   go_ret
   exact⟨rfl,hb⟩
  have hl':¬(30:Int)<(tn:Int):=by omega
  cases hB:runB (Md.mk cd ch cl cv cu cx ct cn m R S ad9) tz tn with
  | false =>
   have HBB:=hdn hB
   clear hB
   go_enter Tryz.func8,Tryz.ntmps8
   go_wp2_with (first
    | (go_at_call 26;refine (k26 _).mono ?_;rintro e W1 ⟨rfl,h1⟩;replace hb:=bTn hb h1;replace qk:=qk.kept h1;clear h1 k26 k0 k1 k2 k3 k4 k5 k6 k7 k8 k9 k10;obtain⟨k0,k1,k2,k3,k4,k5,k6,k7,k8,k9,k10⟩:=qk.c11)
    | (go_at_call 19;refine (k19 _).mono ?_;rintro e W2 ⟨t1,rfl,hN,h2⟩;replace hb:=bTn hb h2;replace qk:=qk.kept h2;obtain⟨W3,eW3⟩:∃ W,W2.alloc (.cells #[.int .i64 cd,.int .i64 ch,.int .i64 cl,.int .i64 cv,.int .i64 cu,.int .i64 cx,.int .i64 ct,.int .i64 cn,.slice t1.E.a t1.E.n t1.E.c,.slice t1.L.a t1.L.n t1.L.c,.slice t1.N.a t1.N.n t1.N.c,.slice t1.O.a t1.O.n t1.O.c] 27)=W:=⟨_,rfl⟩;have n3:Below W2.heap.size W2 W3:=eW3 ▸ bNw (Below.refl _ _) _;have qm:Blk 27 W3 W2.heap.size #[.int .i64 cd,.int .i64 ch,.int .i64 cl,.int .i64 cv,.int .i64 cu,.int .i64 cx,.int .i64 ct,.int .i64 cn,.slice t1.E.a t1.E.n t1.E.c,.slice t1.L.a t1.L.n t1.L.c,.slice t1.N.a t1.N.n t1.N.c,.slice t1.O.a t1.O.n t1.O.c]:=eW3 ▸ Blk.new 27 W2 _;have m1:=(hN.below n3) _ (fun _ _ hp _=>hp);replace hb:=bTn hb n3;replace qk:=qk.kept n3;clear h2 hN n3 k19 k0 k1 k2 k3 k4 k5 k6 k7 k8 k9 k10;obtain⟨k0,k1,k2,k3,k4,k5,k6,k7,k8,k9,k10⟩:=qk.c11))
   have HB:=hdn hb
   have hB:=HBB.out
   clear k0 k1 k2 k3 k4 k5 k6 k7 k8 k9 k10
   refine sz6_region (Md.mk cd ch cl cv cu cx ct cn m R S ad9) t1.E t1.L t1.N t1.O w.heap.size W2.heap.size tn tc 0 ta s r 20 (fun _ _ _=>True) (fun _ _ _=>True) (fun W=>Below W3.heap.size W3 W) (fun h hb=>trivial) (fun h hb=>trivial) (by kernel_rfl) rfl ⟨_,rfl,rfl,rfl,rfl,by kernel_rfl⟩ ⟨_,rfl,rfl,rfl,rfl,by kernel_rfl⟩ ⟨_,rfl,rfl,rfl,rfl,by kernel_rfl⟩ ⟨_,rfl,rfl,rfl,rfl,by kernel_rfl⟩ ⟨_,rfl,rfl,rfl,rfl,by kernel_rfl⟩ ⟨_,rfl,rfl,rfl,rfl,by kernel_rfl⟩ ⟨_,rfl,rfl,rfl,rfl,by kernel_rfl⟩ ⟨_,rfl,rfl,rfl,rfl,by kernel_rfl⟩ ⟨_,rfl,rfl,rfl,rfl,by kernel_rfl⟩ ⟨_,rfl,rfl,rfl,rfl,by kernel_rfl⟩ ⟨_,rfl,rfl,rfl,rfl,by kernel_rfl⟩ ⟨_,rfl,rfl,rfl,rfl,by kernel_rfl⟩ ⟨_,rfl,rfl,rfl,rfl,by kernel_rfl⟩ ⟨_,rfl,rfl,rfl,rfl,by kernel_rfl⟩ ⟨_,rfl,rfl,rfl,rfl,by kernel_rfl⟩ ⟨_,rfl,rfl,rfl,rfl,by kernel_rfl⟩ ⟨_,rfl,rfl,rfl,rfl,by kernel_rfl⟩ ⟨_,rfl,rfl,rfl,rfl,by kernel_rfl⟩ (Below.refl _ _).drew (fun w hw=>rL7 (qm.kept hw)) (fun w=>run_field47 _ 2 9 (by omega) w) (fun w hw=>run_k3 (qk.kept hw)) (fun w=>run_field47 _ 0 0 (by omega) w) (fun w hw=>run_k23 (qk.kept hw)) (fun w=>run_field47 _ 1 8 (by omega) w) (fun w hw=>run_k44 (qk.kept hw)) (fun w hw=>(K20.out w).mono fun e w' h=>by obtain⟨t',rfl,hn,hb'⟩:=h;exact⟨⟨t'.1,t'.2,rfl,hn _ (fun _ _ hp _=>hp)⟩,hb',bTn hw hb'⟩) (fun w=>run_field47 _ 3 10 (by omega) w) (fun w hw=>run_k45 (qk.kept hw)) (fun w La Ya hw hA=>(mrun_no (Md.mk cd ch cl cv cu cx ct cn m R S ad9) t1.E t1.L t1.N t1.O t1.Y t1.U t1.D La Ya HE.out w (m1.below hw) hA ta tn tc tz (HT.out.below (bTn HB.out hw)) hB).mono fun e w' h=>by obtain⟨rfl,h4⟩:=h;exact⟨⟨none,0,none,0,rfl,trivial,trivial⟩,h4,bTn hw h4⟩) rfl rfl (Nat.le_of_ble_eq_true rfl) ?_
   intro a W9 hs hd hkp hS9 hval
   have e7:a.tmps.getD 7 undef=.int .i64 20:=hval 17 7 (by decide) rfl
   obtain⟨ra,rc,e5,f5⟩:=hval 15 5 (by decide) rfl
   obtain⟨oa,oc,e6,f6⟩:=hval 16 6 (by decide) rfl
   have ep:=fPu [29,30,31,32,33,34,35,36,37,38,39,28,40,41,42,5,6,7] hs hd (fun s h=>hkp s (fun i hi e=>h (by
    rcases (show i=0∨i=1∨i=2∨i=3∨i=4∨i=5∨i=6∨i=7∨i=8∨i=9∨i=10∨i=11∨i=12∨i=13∨i=14∨i=15∨i=16∨i=17 by omega) with rfl|rfl|rfl|rfl|rfl|rfl|rfl|rfl|rfl|rfl|rfl|rfl|rfl|rfl|rfl|rfl|rfl|rfl<;>(simp only[sz6D,Option.some.injEq] at e;subst e;simp))))
   simp only[List.foldl] at ep
   rw[e7] at ep
   rw[e5] at ep
   rw[e6] at ep
   have H9:=hdn hS9
   clear hs hd hkp hval hS9 e7 e5 e6
   generalize a.tmps.getD 29 undef=g29,a.tmps.getD 30 undef=g30,a.tmps.getD 31 undef=g31,a.tmps.getD 32 undef=g32,a.tmps.getD 33 undef=g33,a.tmps.getD 34 undef=g34,a.tmps.getD 35 undef=g35,a.tmps.getD 36 undef=g36,a.tmps.getD 37 undef=g37,a.tmps.getD 38 undef=g38,a.tmps.getD 39 undef=g39,a.tmps.getD 28 undef=g28,a.tmps.getD 40 undef=g40,a.tmps.getD 41 undef=g41,a.tmps.getD 42 undef=g42 at ep
   simp only[Act.put,List.setIfInBounds_toArray,List.set_cons_succ,List.set_cons_zero] at ep
   subst ep
   have hbE:=bTn HB.out H9.out
   clear f5 f6 hB
   go_wp2
   go_ret
   exact⟨rfl,hbE⟩
  | true =>
   have HBB:=hdn hB
   clear hB
   go_enter Tryz.func8,Tryz.ntmps8
   go_wp2_with (first
    | (go_at_call 26;refine (k26 _).mono ?_;rintro e W1 ⟨rfl,h1⟩;replace hb:=bTn hb h1;replace qk:=qk.kept h1;clear h1 k26 k0 k1 k2 k3 k4 k5 k6 k7 k8 k9 k10;obtain⟨k0,k1,k2,k3,k4,k5,k6,k7,k8,k9,k10⟩:=qk.c11)
    | (go_at_call 19;refine (k19 _).mono ?_;rintro e W2 ⟨t1,rfl,hN,h2⟩;replace hb:=bTn hb h2;replace qk:=qk.kept h2;obtain⟨W3,eW3⟩:∃ W,W2.alloc (.cells #[.int .i64 cd,.int .i64 ch,.int .i64 cl,.int .i64 cv,.int .i64 cu,.int .i64 cx,.int .i64 ct,.int .i64 cn,.slice t1.E.a t1.E.n t1.E.c,.slice t1.L.a t1.L.n t1.L.c,.slice t1.N.a t1.N.n t1.N.c,.slice t1.O.a t1.O.n t1.O.c] 27)=W:=⟨_,rfl⟩;have n3:Below W2.heap.size W2 W3:=eW3 ▸ bNw (Below.refl _ _) _;have qm:Blk 27 W3 W2.heap.size #[.int .i64 cd,.int .i64 ch,.int .i64 cl,.int .i64 cv,.int .i64 cu,.int .i64 cx,.int .i64 ct,.int .i64 cn,.slice t1.E.a t1.E.n t1.E.c,.slice t1.L.a t1.L.n t1.L.c,.slice t1.N.a t1.N.n t1.N.c,.slice t1.O.a t1.O.n t1.O.c]:=eW3 ▸ Blk.new 27 W2 _;have m1:=(hN.below n3) _ (fun _ _ hp _=>hp);replace hb:=bTn hb n3;replace qk:=qk.kept n3;clear h2 hN n3 k19 k0 k1 k2 k3 k4 k5 k6 k7 k8 k9 k10;obtain⟨k0,k1,k2,k3,k4,k5,k6,k7,k8,k9,k10⟩:=qk.c11))
   have HB:=hdn hb
   have hB:=HBB.out
   clear k0 k1 k2 k3 k4 k5 k6 k7 k8 k9 k10
   refine sz6_region (Md.mk cd ch cl cv cu cx ct cn m R S ad9) t1.E t1.L t1.N t1.O w.heap.size W2.heap.size tn tc tn ta s r 0 (fun W a _=>∃ A C,Grid W a tn A C (rowF (Md.mk cd ch cl cv cu cx ct cn m R S ad9) (tokF tz))) (fun W a _=>∃ A C,Grid W a tn A C (outF (Md.mk cd ch cl cv cu cx ct cn m R S ad9) (tokF tz))) (fun W=>Below W3.heap.size W3 W) (fun h hb=>h.elim fun A h=>h.elim fun C h=>⟨A,C,h.below hb⟩) (fun h hb=>h.elim fun A h=>h.elim fun C h=>⟨A,C,h.below hb⟩) (by kernel_rfl) rfl ⟨_,rfl,rfl,rfl,rfl,by kernel_rfl⟩ ⟨_,rfl,rfl,rfl,rfl,by kernel_rfl⟩ ⟨_,rfl,rfl,rfl,rfl,by kernel_rfl⟩ ⟨_,rfl,rfl,rfl,rfl,by kernel_rfl⟩ ⟨_,rfl,rfl,rfl,rfl,by kernel_rfl⟩ ⟨_,rfl,rfl,rfl,rfl,by kernel_rfl⟩ ⟨_,rfl,rfl,rfl,rfl,by kernel_rfl⟩ ⟨_,rfl,rfl,rfl,rfl,by kernel_rfl⟩ ⟨_,rfl,rfl,rfl,rfl,by kernel_rfl⟩ ⟨_,rfl,rfl,rfl,rfl,by kernel_rfl⟩ ⟨_,rfl,rfl,rfl,rfl,by kernel_rfl⟩ ⟨_,rfl,rfl,rfl,rfl,by kernel_rfl⟩ ⟨_,rfl,rfl,rfl,rfl,by kernel_rfl⟩ ⟨_,rfl,rfl,rfl,rfl,by kernel_rfl⟩ ⟨_,rfl,rfl,rfl,rfl,by kernel_rfl⟩ ⟨_,rfl,rfl,rfl,rfl,by kernel_rfl⟩ ⟨_,rfl,rfl,rfl,rfl,by kernel_rfl⟩ ⟨_,rfl,rfl,rfl,rfl,by kernel_rfl⟩ (Below.refl _ _).drew (fun w hw=>rL7 (qm.kept hw)) (fun w=>run_field47 _ 2 9 (by omega) w) (fun w hw=>run_k3 (qk.kept hw)) (fun w=>run_field47 _ 0 0 (by omega) w) (fun w hw=>run_k23 (qk.kept hw)) (fun w=>run_field47 _ 1 8 (by omega) w) (fun w hw=>run_k44 (qk.kept hw)) (fun w hw=>(K20.out w).mono fun e w' h=>by obtain⟨t',rfl,hn,hb'⟩:=h;exact⟨⟨t'.1,t'.2,rfl,hn _ (fun _ _ hp _=>hp)⟩,hb',bTn hw hb'⟩) (fun w=>run_field47 _ 3 10 (by omega) w) (fun w hw=>run_k45 (qk.kept hw)) (fun w La Ya hw hA=>(mrun_yes (Md.mk cd ch cl cv cu cx ct cn m R S ad9) t1.E t1.L t1.N t1.O t1.Y t1.U t1.D La Ya HE.out w (m1.below hw) hA ta tn tc tz (HT.out.below (bTn HB.out hw)) hB).mono fun e w' h=>by obtain⟨⟨u,k,u2,k2,A,A2,C,C2,rfl,h1,h2,-⟩,h4⟩:=h;exact⟨⟨u,k,u2,k2,rfl,⟨A,C,h1⟩,⟨A2,C2,h2⟩⟩,h4,bTn hw h4⟩) rfl rfl (Nat.le_of_ble_eq_true rfl) ?_
   intro a W9 hs hd hkp hS9 hval
   have e7:a.tmps.getD 7 undef=.int .i64 0:=hval 17 7 (by decide) rfl
   obtain⟨ra,rc,e5,f5⟩:=hval 15 5 (by decide) rfl
   obtain⟨oa,oc,e6,f6⟩:=hval 16 6 (by decide) rfl
   have ep:=fPu [29,30,31,32,33,34,35,36,37,38,39,28,40,41,42,5,6,7] hs hd (fun s h=>hkp s (fun i hi e=>h (by
    rcases (show i=0∨i=1∨i=2∨i=3∨i=4∨i=5∨i=6∨i=7∨i=8∨i=9∨i=10∨i=11∨i=12∨i=13∨i=14∨i=15∨i=16∨i=17 by omega) with rfl|rfl|rfl|rfl|rfl|rfl|rfl|rfl|rfl|rfl|rfl|rfl|rfl|rfl|rfl|rfl|rfl|rfl<;>(simp only[sz6D,Option.some.injEq] at e;subst e;simp))))
   simp only[List.foldl] at ep
   rw[e7] at ep
   rw[e5] at ep
   rw[e6] at ep
   have H9:=hdn hS9
   clear hs hd hkp hval hS9 e7 e5 e6
   generalize a.tmps.getD 29 undef=g29,a.tmps.getD 30 undef=g30,a.tmps.getD 31 undef=g31,a.tmps.getD 32 undef=g32,a.tmps.getD 33 undef=g33,a.tmps.getD 34 undef=g34,a.tmps.getD 35 undef=g35,a.tmps.getD 36 undef=g36,a.tmps.getD 37 undef=g37,a.tmps.getD 38 undef=g38,a.tmps.getD 39 undef=g39,a.tmps.getD 28 undef=g28,a.tmps.getD 40 undef=g40,a.tmps.getD 41 undef=g41,a.tmps.getD 42 undef=g42 at ep
   simp only[Act.put,List.setIfInBounds_toArray,List.set_cons_succ,List.set_cons_zero] at ep
   subst ep
   have hbE:=bTn HB.out H9.out
   have qkE:=qk.kept H9.out
   obtain⟨k0,k1,k2,k3,k4,k5,k6,k7,k8,k9,k10⟩:=qkE.c11
   have HF:=hdn (And.intro f5 f6)
   have HQ:=hdn qkE
   have HBE:=hdn hbE
   clear f5 f6 hB qk qkE qm m1 hb hbE H9
   go_wp2
   go_loopw [8,9] (fun i _ wr=>∃ k:Nat,k≤tn∧i=.int .i64 k∧Below W9.heap.size W9 wr) (fun i _ _=>tn-(intOf i).toNat)
   case atStart=>exact⟨0,Nat.zero_le _,rfl,Below.refl _ _⟩
   case round =>
    obtain⟨k,hk,rfl,hbr⟩:=hrel
    by_cases hlt:k<tn
    ·obtain⟨⟨A,C,gr⟩,A2,C2,go_⟩:=HF.out
     replace gr:=gr.below hbr
     replace go_:=go_.below hbr
     have qkr:=HQ.out.kept hbr
     obtain⟨gx,rfl⟩:=gr.some_ (by omega)
     obtain⟨ox,rfl⟩:=go_.some_ (by omega)
     have hlt':(k:Int)<(tn:Int):=by omega
     have F:=(badE_ok HE.out).fit
     have hrow:=rowF_length F (tokF tz) k
     have hwid:widthZ cd ch cl cv cu cx ct cn=(((rowF (Md.mk cd ch cl cv cu cx ct cn m R S ad9) (tokF tz) k).length:Nat):Int):=by rw[hrow];exact wOf F (badE_ok HE.out).ok
     have hout:(((outF (Md.mk cd ch cl cv cu cx ct cn m R S ad9) (tokF tz) k).length:Nat):Int)=cd:=by rw[outF_length];exact F.eD.symm
     have Hbr:=hdn hbr
     clear hbr
     clear k0 k1 k2 k3 k4 k5 k6 k7 k8 k9 k10
     go_wp2
     refine sz14_region (Md.mk cd ch cl cv cu cx ct cn m R S ad9) w.heap.size k tn rc oc (rowF (Md.mk cd ch cl cv cu cx ct cn m R S ad9) (tokF tz) k).length (outF (Md.mk cd ch cl cv cu cx ct cn m R S ad9) (tokF tz) k).length (C k) (C2 k) gx ox (A k) (A2 k) (fun W=>Below wr.heap.size wr W) (by kernel_rfl) rfl ⟨_,rfl,rfl,rfl,rfl,by kernel_rfl⟩ ⟨_,rfl,rfl,rfl,rfl,by kernel_rfl⟩ ⟨_,rfl,rfl,rfl,rfl,by kernel_rfl⟩ ⟨_,rfl,rfl,rfl,rfl,by kernel_rfl⟩ ⟨_,rfl,rfl,rfl,rfl,by kernel_rfl⟩ ⟨_,rfl,rfl,rfl,rfl,by kernel_rfl⟩ ⟨_,rfl,rfl,rfl,rfl,by kernel_rfl⟩ ⟨_,rfl,rfl,rfl,rfl,by kernel_rfl⟩ ⟨_,rfl,rfl,rfl,rfl,by kernel_rfl⟩ ⟨_,rfl,rfl,rfl,rfl,by kernel_rfl⟩ ⟨_,rfl,rfl,rfl,rfl,by kernel_rfl⟩ ⟨_,rfl,rfl,rfl,rfl,by kernel_rfl⟩ ⟨_,rfl,rfl,rfl,rfl,by kernel_rfl⟩ ⟨_,rfl,rfl,rfl,rfl,by kernel_rfl⟩ ⟨_,rfl,rfl,rfl,rfl,by kernel_rfl⟩ ⟨_,rfl,rfl,rfl,rfl,by kernel_rfl⟩ ⟨_,rfl,rfl,rfl,rfl,by kernel_rfl⟩ ⟨_,rfl,rfl,rfl,rfl,by kernel_rfl⟩ ⟨_,rfl,rfl,rfl,rfl,by kernel_rfl⟩ ⟨_,rfl,rfl,rfl,rfl,by kernel_rfl⟩ (Below.refl _ _).drew (fun w=>by go_simp) (fun w hw=>run_load34 ((gr.below hw).cell gx rfl k hlt)) (fun w=>run_field47 _ 0 0 (by omega) w) (fun w hw=>run_k23 (qkr.kept hw)) (fun w hw=>(md_width cd ch cl cv cu cx ct cn w).mono fun e w' h=>by obtain⟨h1,h2⟩:=h;rw[hwid] at h1;exact⟨h1,h2,bTn hw h2⟩) (fun w=>by go_simp) (fun w=>by go_simp) (fun w hw=>run_load34 ((go_.below hw).cell ox rfl k hlt)) (fun w=>run_field47 _ 0 0 (by omega) w) (fun w=>by go_simp) (fun w hw=>by rw[hout];exact run_k0 (qkr.kept hw)) (fun w=>by go_simp) rfl rfl rfl rfl (Nat.le_of_ble_eq_true rfl) ?_
     intro a W14 hs hd hkp hS9 hval
     have e92:a.tmps.getD 92 undef=.bool false:=hval 19 92 (by decide) rfl
     have ep:=fPu [73,74,75,76,77,78,79,80,81,82,83,84,85,86,87,88,89,90,91,92] hs hd (fun s h=>hkp s (fun i hi e=>h (by
      rcases (show i=0∨i=1∨i=2∨i=3∨i=4∨i=5∨i=6∨i=7∨i=8∨i=9∨i=10∨i=11∨i=12∨i=13∨i=14∨i=15∨i=16∨i=17∨i=18∨i=19 by omega) with rfl|rfl|rfl|rfl|rfl|rfl|rfl|rfl|rfl|rfl|rfl|rfl|rfl|rfl|rfl|rfl|rfl|rfl|rfl|rfl<;>(simp only[sz14D,Option.some.injEq] at e;subst e;simp))))
     simp only[List.foldl] at ep
     rw[e92] at ep
     have H9:=hdn hS9
     clear hs hd hkp hval hS9 e92
     generalize a.tmps.getD 73 undef=g73,a.tmps.getD 74 undef=g74,a.tmps.getD 75 undef=g75,a.tmps.getD 76 undef=g76,a.tmps.getD 77 undef=g77,a.tmps.getD 78 undef=g78,a.tmps.getD 79 undef=g79,a.tmps.getD 80 undef=g80,a.tmps.getD 81 undef=g81,a.tmps.getD 82 undef=g82,a.tmps.getD 83 undef=g83,a.tmps.getD 84 undef=g84,a.tmps.getD 85 undef=g85,a.tmps.getD 86 undef=g86,a.tmps.getD 87 undef=g87,a.tmps.getD 88 undef=g88,a.tmps.getD 89 undef=g89,a.tmps.getD 90 undef=g90,a.tmps.getD 91 undef=g91 at ep
     simp only[Act.put,List.setIfInBounds_toArray,List.set_cons_succ,List.set_cons_zero] at ep
     subst ep
     obtain⟨Z,eZ⟩:∃ Z,(rowF (Md.mk cd ch cl cv cu cx ct cn m R S ad9) (tokF tz) k).length=Z:=⟨_,rfl⟩
     have hb14:=H9.out
     have gr2:=gr.below hb14
     have hin:=in_rowF (Md.mk cd ch cl cv cu cx ct cn m R S ad9) (tokF tz) k
     have hZ0:0<Z:=by
      rw[←eZ,hrow]
      exact Nat.mul_pos (Nat.mul_pos (by decide) F.l0) (Nat.lt_of_lt_of_le (by decide) F.d0)
     have hcell:=gr2.cell gx rfl k hlt
     have hrd:=gr2.row k hlt
     rw[eZ] at hcell hrd
     obtain⟨y,ey⟩:=hrd.some_ hZ0
     rw[ey] at hcell hrd
     obtain⟨rowk,erow⟩:∃ q,rowF (Md.mk cd ch cl cv cu cx ct cn m R S ad9) (tokF tz) k=q:=⟨_,rfl⟩
     rw[erow] at hrd hin
     obtain⟨Ck,eCk⟩:∃ q,C k=q:=⟨_,rfl⟩
     rw[eCk] at hcell
     have hlenZ:rowk.length=Z:=by rw[←erow];exact eZ
     have HX:=hdn (And.intro hin (And.intro hrd (And.intro hlenZ hb14)))
     have hmx:=hrd.max
     clear hin hrd hlenZ hb14 gr go_ gr2 qkr hwid hout hrow F ey eZ erow eCk H9 hZ0
     go_wp2
     go_loopw [9] (fun n wv=>∃ j:Nat,j≤Z∧n=.int .i64 j∧Below W14.heap.size W14 wv) (fun n _=>Z-(intOf n).toNat)
     case atStart=>exact⟨0,Nat.zero_le _,rfl,Below.refl _ _⟩
     case round =>
      obtain⟨j,hj,rfl,hbv⟩:=hrel
      have cx:=(hbv.cell (World.block_lt_of_cell? _ _ hcell)).trans hcell
      have Hbv:=hdn hbv
      by_cases hjl:j<Z
      ·have hjl':(j:Int)<(Z:Int):=by omega
       obtain⟨hin,hrd,hlenZ,-⟩:=HX.out
       have cy:=(hrd.below hbv).cell y rfl j hjl
       have hz:In32 (rowk.getD j 0):=by
        refine hin _ ?_
        rw[List.getD_eq_getElem?_getD,List.getElem?_eq_getElem (by omega)]
        exact List.getElem_mem _
       obtain⟨V,eV⟩:∃ V,rowk.getD j 0=V:=⟨_,rfl⟩
       rw[eV] at cy hz
       have z1:decide ((2147483647:Int)<V)=false:=by have:=hz.2;simp;omega
       have z2:decide (V<(-2147483648:Int))=false:=by have:=hz.1;simp;omega
       have z1':¬(2147483647:Int)<V:=by have:=hz.2;omega
       have z2':¬V<(-2147483648:Int):=by have:=hz.1;omega
       clear hin hrd hlenZ hz eV hbv
       go_wp2
       go_roundw
       case rel=>exact⟨j+1,by omega,by go_num,Hbv.out⟩
       case measure=>simp[intOf];omega
      ·have hjl':¬(j:Int)<(Z:Int):=by omega
       clear hbv
       go_wp2
       go_roundw
       case rel=>exact⟨k+1,by omega,by go_num,bTn Hbr.out (bTn HX.out.2.2.2 Hbv.out)⟩
       case measure=>simp[intOf];omega
    ·have hlt':¬(k:Int)<(tn:Int):=by omega
     have hbF:=bTn HBE.out hbr
     go_wp2
     go_ret
     exact⟨rfl,hbF⟩
end
section
theorem fewer_walk (cd ch cl cv cu cx ct cn s r at_:Int)(ta:Option Addr)(tn tc:Nat)(tz:List Int)(w:World)(hs:(Lit.int .u64 s).wf=true)(ht:Reads .i64 w ta tn tz)(hte:ta=none→tc=0)(htl:tn≤tc) :
  Calls Tryz.prog 5 #[.agg #[.int .i64 cd,.int .i64 ch,.int .i64 cl,.int .i64 cv,.int .i64 cu,.int .i64 cx,.int .i64 ct,.int .i64 cn,.int .u64 s,.int .i64 r,.slice ta tn tc],.int .i64 at_] w fun e w'=>e=.returned (.bool true)∧Below w.heap.size w w':=by
 have hb:=bNw (Below.refl w.heap.size w) (.cells #[.int .i64 cd,.int .i64 ch,.int .i64 cl,.int .i64 cv,.int .i64 cu,.int .i64 cx,.int .i64 ct,.int .i64 cn,.int .u64 s,.int .i64 r,.slice ta tn tc] 47)
 have qk:=Blk.new 47 w #[.int .i64 cd,.int .i64 ch,.int .i64 cl,.int .i64 cv,.int .i64 cu,.int .i64 cx,.int .i64 ct,.int .i64 cn,.int .u64 s,.int .i64 r,.slice ta tn tc]
 have k26:=works_call
 have htm:=ht.max
 have HT:=hdn ht
 clear ht
 obtain⟨k0,k1,k2,k3,k4,k5,k6,k7,k8,k9,k10⟩:=qk.c11
 cases ok:okB cd ch cl cv cu cx ct cn with
 | false =>
  have k19:=fun W=>model_no cd ch cl cv cu cx ct cn s ok W
  go_enter Tryz.func5,Tryz.ntmps5
  go_wp2_with (first
   | (go_at_call 26;refine (k26 _).mono ?_;rintro e W1 ⟨rfl,h1⟩;replace hb:=bTn hb h1;replace qk:=qk.kept h1;clear h1 k26 k0 k1 k2 k3 k4 k5 k6 k7 k8 k9 k10;obtain⟨k0,k1,k2,k3,k4,k5,k6,k7,k8,k9,k10⟩:=qk.c11)
   | (go_at_call 19;refine (k19 _).mono ?_;rintro e W2 ⟨t1,rfl,hN,h2⟩;replace hb:=bTn hb h2;replace qk:=qk.kept h2;obtain⟨W3,eW3⟩:∃ W,W2.alloc (.cells #[.int .i64 0,.int .i64 0,.int .i64 0,.int .i64 0,.int .i64 0,.int .i64 0,.int .i64 0,.int .i64 0,.slice t1.E.a t1.E.n t1.E.c,.slice t1.L.a t1.L.n t1.L.c,.slice t1.N.a t1.N.n t1.N.c,.slice t1.O.a t1.O.n t1.O.c] 27)=W:=⟨_,rfl⟩;have n3:Below W2.heap.size W2 W3:=eW3 ▸ bNw (Below.refl _ _) _;have qm:Blk 27 W3 W2.heap.size #[.int .i64 0,.int .i64 0,.int .i64 0,.int .i64 0,.int .i64 0,.int .i64 0,.int .i64 0,.int .i64 0,.slice t1.E.a t1.E.n t1.E.c,.slice t1.L.a t1.L.n t1.L.c,.slice t1.N.a t1.N.n t1.N.c,.slice t1.O.a t1.O.n t1.O.c]:=eW3 ▸ Blk.new 27 W2 _;have m1:=(hN.below n3) _ (fun _ _ hp _=>hp);replace hb:=bTn hb n3;replace qk:=qk.kept n3;clear h2 hN n3 k19 k0 k1 k2 k3 k4 k5 k6 k7 k8 k9 k10;obtain⟨k0,k1,k2,k3,k4,k5,k6,k7,k8,k9,k10⟩:=qk.c11))
  go_ret
  exact⟨rfl,hb⟩
 | true =>
  obtain⟨m,em⟩:∃ m,shapeV cd cl cv cu cx (wtL s (szZ cd cl cv cu cx).toNat)=m:=⟨_,rfl⟩
  obtain⟨R,eR⟩:∃ R,adR r=R:=⟨_,rfl⟩
  obtain⟨S,eS⟩:∃ S,adS r s=S:=⟨_,rfl⟩
  obtain⟨ad9,ea⟩:∃ a,adV r cd cl s=a:=⟨_,rfl⟩
  have hE:badE (Md.mk cd ch cl cv cu cx ct cn m R S ad9)=0:=by
   have h9:=made_bad ok s r
   unfold made at h9
   rw[em,eR,eS,ea] at h9
   exact h9
  have k19:=fun W=>model_yes cd ch cl cv cu cx ct cn s ok W
  have k20:=fun W=>adapt_call r cd ch cl cv cu cx ct cn s ok hs W
  simp only[em] at k19
  simp only[eR,eS,ea] at k20
  have K20:=hdn k20
  have HE:=hdn hE
  clear em eR eS ea k20 hE
  by_cases hl:30<tn
  ·have hl':(30:Int)<(tn:Int):=by omega
   go_enter Tryz.func5,Tryz.ntmps5
   go_wp2_with (first
    | (go_at_call 26;refine (k26 _).mono ?_;rintro e W1 ⟨rfl,h1⟩;replace hb:=bTn hb h1;replace qk:=qk.kept h1;clear h1 k26 k0 k1 k2 k3 k4 k5 k6 k7 k8 k9 k10;obtain⟨k0,k1,k2,k3,k4,k5,k6,k7,k8,k9,k10⟩:=qk.c11)
    | (go_at_call 19;refine (k19 _).mono ?_;rintro e W2 ⟨t1,rfl,hN,h2⟩;replace hb:=bTn hb h2;replace qk:=qk.kept h2;obtain⟨W3,eW3⟩:∃ W,W2.alloc (.cells #[.int .i64 cd,.int .i64 ch,.int .i64 cl,.int .i64 cv,.int .i64 cu,.int .i64 cx,.int .i64 ct,.int .i64 cn,.slice t1.E.a t1.E.n t1.E.c,.slice t1.L.a t1.L.n t1.L.c,.slice t1.N.a t1.N.n t1.N.c,.slice t1.O.a t1.O.n t1.O.c] 27)=W:=⟨_,rfl⟩;have n3:Below W2.heap.size W2 W3:=eW3 ▸ bNw (Below.refl _ _) _;have qm:Blk 27 W3 W2.heap.size #[.int .i64 cd,.int .i64 ch,.int .i64 cl,.int .i64 cv,.int .i64 cu,.int .i64 cx,.int .i64 ct,.int .i64 cn,.slice t1.E.a t1.E.n t1.E.c,.slice t1.L.a t1.L.n t1.L.c,.slice t1.N.a t1.N.n t1.N.c,.slice t1.O.a t1.O.n t1.O.c]:=eW3 ▸ Blk.new 27 W2 _;have m1:=(hN.below n3) _ (fun _ _ hp _=>hp);replace hb:=bTn hb n3;replace qk:=qk.kept n3;clear h2 hN n3 k19 k0 k1 k2 k3 k4 k5 k6 k7 k8 k9 k10;obtain⟨k0,k1,k2,k3,k4,k5,k6,k7,k8,k9,k10⟩:=qk.c11))
   go_ret
   exact⟨rfl,hb⟩
  have hl':¬(30:Int)<(tn:Int):=by omega
  obtain⟨N1,eN⟩:∃ N1:Nat,tn+1=N1:=⟨_,rfl⟩
  obtain⟨Q,hQ,eQ,eQ'⟩:=restN at_ N1 (by omega)
  have eN':(tn:Int)+1=(N1:Int):=by omega
  have wN:IntKind.u64.wrap (N1:Int)=(N1:Int):=by rw[IntKind.wrap_u64];omega
  have zN:((N1:Int)==0)=false:=by simp;omega
  have hQt:Q≤tn:=by omega
  have wQ:IntKind.i64.wrap (Q:Int)=(Q:Int):=by rw[IntKind.wrap_i64];omega
  clear eN eQ' hQ
  cases hB:runB (Md.mk cd ch cl cv cu cx ct cn m R S ad9) tz tn with
  | false =>
   have HBB:=hdn hB
   clear hB
   go_enter Tryz.func5,Tryz.ntmps5
   go_wp2_with (first
    | (go_at_call 26;refine (k26 _).mono ?_;rintro e W1 ⟨rfl,h1⟩;replace hb:=bTn hb h1;replace qk:=qk.kept h1;clear h1 k26 k0 k1 k2 k3 k4 k5 k6 k7 k8 k9 k10;obtain⟨k0,k1,k2,k3,k4,k5,k6,k7,k8,k9,k10⟩:=qk.c11)
    | (go_at_call 19;refine (k19 _).mono ?_;rintro e W2 ⟨t1,rfl,hN,h2⟩;replace hb:=bTn hb h2;replace qk:=qk.kept h2;obtain⟨W3,eW3⟩:∃ W,W2.alloc (.cells #[.int .i64 cd,.int .i64 ch,.int .i64 cl,.int .i64 cv,.int .i64 cu,.int .i64 cx,.int .i64 ct,.int .i64 cn,.slice t1.E.a t1.E.n t1.E.c,.slice t1.L.a t1.L.n t1.L.c,.slice t1.N.a t1.N.n t1.N.c,.slice t1.O.a t1.O.n t1.O.c] 27)=W:=⟨_,rfl⟩;have n3:Below W2.heap.size W2 W3:=eW3 ▸ bNw (Below.refl _ _) _;have qm:Blk 27 W3 W2.heap.size #[.int .i64 cd,.int .i64 ch,.int .i64 cl,.int .i64 cv,.int .i64 cu,.int .i64 cx,.int .i64 ct,.int .i64 cn,.slice t1.E.a t1.E.n t1.E.c,.slice t1.L.a t1.L.n t1.L.c,.slice t1.N.a t1.N.n t1.N.c,.slice t1.O.a t1.O.n t1.O.c]:=eW3 ▸ Blk.new 27 W2 _;have m1:=(hN.below n3) _ (fun _ _ hp _=>hp);replace hb:=bTn hb n3;replace qk:=qk.kept n3;clear h2 hN n3 k19 k0 k1 k2 k3 k4 k5 k6 k7 k8 k9 k10;obtain⟨k0,k1,k2,k3,k4,k5,k6,k7,k8,k9,k10⟩:=qk.c11)
    | (go_at_call 20;refine (K20.out _).mono ?_;rintro e W4 ⟨t2,rfl,hNA,h4⟩;replace hb:=bTn hb h4;replace qk:=qk.kept h4;replace qm:=qm.kept h4;replace m1:=m1.below h4;obtain⟨W5,eW5⟩:∃ W,W4.alloc (.cells #[.int .i64 R,.int .i64 S,.slice t2.1.a t2.1.n t2.1.c] 30)=W:=⟨_,rfl⟩;have n5:Below W4.heap.size W4 W5:=eW5 ▸ bNw (Below.refl _ _) _;have qa:Blk 30 W5 W4.heap.size #[.int .i64 R,.int .i64 S,.slice t2.1.a t2.1.n t2.1.c]:=eW5 ▸ Blk.new 30 W4 _;have a1:=(hNA.below n5) _ (fun _ _ hp _=>hp);replace hb:=bTn hb n5;replace qk:=qk.kept n5;replace qm:=qm.kept n5;replace m1:=m1.below n5;clear h4 hNA n5 k0 k1 k2 k3 k4 k5 k6 k7 k8 k9 k10;obtain⟨k0,k1,k2,k3,k4,k5,k6,k7,k8,k9,k10⟩:=qk.c11;obtain⟨b0,b1,b2,b3,b4,b5,b6,b7,b8,b9,b10,b11⟩:=qm.c12;obtain⟨d0,d1,d2⟩:=qa.c3)
    | (go_at_call 21;refine (mrun_no (Md.mk cd ch cl cv cu cx ct cn m R S ad9) t1.E t1.L t1.N t1.O t1.Y t1.U t1.D t2.1 t2.2 HE.out _ m1 a1 ta tn tc tz (HT.out.below hb) HBB.out).mono ?_;rintro e W6 ⟨rfl,h6⟩;replace hb:=bTn hb h6;clear h6))
   go_ret
   exact⟨rfl,hb⟩
  | true =>
   have HBB:=hdn hB
   clear hB
   go_enter Tryz.func5,Tryz.ntmps5
   go_wp2_with (first
    | (go_at_call 26;refine (k26 _).mono ?_;rintro e W1 ⟨rfl,h1⟩;replace hb:=bTn hb h1;replace qk:=qk.kept h1;clear h1 k26 k0 k1 k2 k3 k4 k5 k6 k7 k8 k9 k10;obtain⟨k0,k1,k2,k3,k4,k5,k6,k7,k8,k9,k10⟩:=qk.c11)
    | (go_at_call 19;refine (k19 _).mono ?_;rintro e W2 ⟨t1,rfl,hN,h2⟩;replace hb:=bTn hb h2;replace qk:=qk.kept h2;obtain⟨W3,eW3⟩:∃ W,W2.alloc (.cells #[.int .i64 cd,.int .i64 ch,.int .i64 cl,.int .i64 cv,.int .i64 cu,.int .i64 cx,.int .i64 ct,.int .i64 cn,.slice t1.E.a t1.E.n t1.E.c,.slice t1.L.a t1.L.n t1.L.c,.slice t1.N.a t1.N.n t1.N.c,.slice t1.O.a t1.O.n t1.O.c] 27)=W:=⟨_,rfl⟩;have n3:Below W2.heap.size W2 W3:=eW3 ▸ bNw (Below.refl _ _) _;have qm:Blk 27 W3 W2.heap.size #[.int .i64 cd,.int .i64 ch,.int .i64 cl,.int .i64 cv,.int .i64 cu,.int .i64 cx,.int .i64 ct,.int .i64 cn,.slice t1.E.a t1.E.n t1.E.c,.slice t1.L.a t1.L.n t1.L.c,.slice t1.N.a t1.N.n t1.N.c,.slice t1.O.a t1.O.n t1.O.c]:=eW3 ▸ Blk.new 27 W2 _;have m1:=(hN.below n3) _ (fun _ _ hp _=>hp);replace hb:=bTn hb n3;replace qk:=qk.kept n3;clear h2 hN n3 k19 k0 k1 k2 k3 k4 k5 k6 k7 k8 k9 k10;obtain⟨k0,k1,k2,k3,k4,k5,k6,k7,k8,k9,k10⟩:=qk.c11)
    | (go_at_call 20;refine (K20.out _).mono ?_;rintro e W4 ⟨t2,rfl,hNA,h4⟩;replace hb:=bTn hb h4;replace qk:=qk.kept h4;replace qm:=qm.kept h4;replace m1:=m1.below h4;obtain⟨W5,eW5⟩:∃ W,W4.alloc (.cells #[.int .i64 R,.int .i64 S,.slice t2.1.a t2.1.n t2.1.c] 30)=W:=⟨_,rfl⟩;have n5:Below W4.heap.size W4 W5:=eW5 ▸ bNw (Below.refl _ _) _;have qa:Blk 30 W5 W4.heap.size #[.int .i64 R,.int .i64 S,.slice t2.1.a t2.1.n t2.1.c]:=eW5 ▸ Blk.new 30 W4 _;have a1:=(hNA.below n5) _ (fun _ _ hp _=>hp);replace hb:=bTn hb n5;replace qk:=qk.kept n5;replace qm:=qm.kept n5;replace m1:=m1.below n5;clear h4 hNA n5 k0 k1 k2 k3 k4 k5 k6 k7 k8 k9 k10;obtain⟨k0,k1,k2,k3,k4,k5,k6,k7,k8,k9,k10⟩:=qk.c11;obtain⟨b0,b1,b2,b3,b4,b5,b6,b7,b8,b9,b10,b11⟩:=qm.c12;obtain⟨d0,d1,d2⟩:=qa.c3)
    | (go_at_call 21;refine (mrun_yes (Md.mk cd ch cl cv cu cx ct cn m R S ad9) t1.E t1.L t1.N t1.O t1.Y t1.U t1.D t2.1 t2.2 HE.out _ m1 a1 ta tn tc tz (HT.out.below hb) HBB.out).mono ?_;rintro e W6 ⟨⟨u,uk,u2,uk2,A,A2,C,C2,rfl,g1,g2,ck,ck2,hcc,n1,n2⟩,h6⟩;replace hb:=bTn hb h6;replace qk:=qk.kept h6;replace qm:=qm.kept h6;replace m1:=m1.below h6;replace qa:=qa.kept h6;replace a1:=a1.below h6;clear h6 k0 k1 k2 k3 k4 k5 k6 k7 k8 k9 k10 b0 b1 b2 b3 b4 b5 b6 b7 b8 b9 b10 b11 d0 d1 d2 hcc;obtain⟨k0,k1,k2,k3,k4,k5,k6,k7,k8,k9,k10⟩:=qk.c11))
   have HB:=hdn hb
   clear k0 k1 k2 k3 k4 k5 k6 k7 k8 k9 k10
   refine fw11_region (Md.mk cd ch cl cv cu cx ct cn m R S ad9) t1.E t1.L t1.N t1.O t2.1 w.heap.size W2.heap.size W4.heap.size tn tc Q ta 0 (fun W a _=>∃ A C,Grid W a Q A C (rowF (Md.mk cd ch cl cv cu cx ct cn m R S ad9) (tokF tz))) (fun W a _=>∃ A C,Grid W a Q A C (outF (Md.mk cd ch cl cv cu cx ct cn m R S ad9) (tokF tz))) (fun W=>Below W6.heap.size W6 W) (fun h hb=>h.elim fun A h=>h.elim fun C h=>⟨A,C,h.below hb⟩) (fun h hb=>h.elim fun A h=>h.elim fun C h=>⟨A,C,h.below hb⟩) (by kernel_rfl) rfl ⟨_,rfl,rfl,rfl,rfl,by kernel_rfl⟩ ⟨_,rfl,rfl,rfl,rfl,by kernel_rfl⟩ ⟨_,rfl,rfl,rfl,rfl,by kernel_rfl⟩ ⟨_,rfl,rfl,rfl,rfl,by kernel_rfl⟩ ⟨_,rfl,rfl,rfl,rfl,by kernel_rfl⟩ ⟨_,rfl,rfl,rfl,rfl,by kernel_rfl⟩ ⟨_,rfl,rfl,rfl,rfl,by kernel_rfl⟩ ⟨_,rfl,rfl,rfl,rfl,by kernel_rfl⟩ ⟨_,rfl,rfl,rfl,rfl,by kernel_rfl⟩ ⟨_,rfl,rfl,rfl,rfl,by kernel_rfl⟩ ⟨_,rfl,rfl,rfl,rfl,by kernel_rfl⟩ ⟨_,rfl,rfl,rfl,rfl,by kernel_rfl⟩ ⟨_,rfl,rfl,rfl,rfl,by kernel_rfl⟩ ⟨_,rfl,rfl,rfl,rfl,by kernel_rfl⟩ (Below.refl _ _).drew (fun w hw=>rL7 (qm.kept hw)) (fun w hw=>rL3 (qa.kept hw)) (fun w=>run_field47 _ 3 10 (by omega) w) (fun w hw=>run_k45 (qk.kept hw)) (fun w=>run_cut45 hte htl hQt w) (fun w hw=>(mrun_yes (Md.mk cd ch cl cv cu cx ct cn m R S ad9) t1.E t1.L t1.N t1.O t1.Y t1.U t1.D t2.1 t2.2 HE.out w (m1.below hw) (a1.below hw) ta Q tc (tz.take Q) (reads_take (HT.out.below (bTn HB.out hw)) hQt) (runB_take HBB.out hQt)).mono fun e w' h=>by obtain⟨⟨u,k,u2,k2,A,A2,C,C2,rfl,h1,h2,-⟩,h4⟩:=h;exact⟨⟨u,k,u2,k2,rfl,⟨A,C,h1.congr (fun r hr=>rowF_congr _ (fun j hj=>tokF_take tz Q j hj) hr)⟩,⟨A2,C2,h2.congr (fun r hr=>outF_congr _ (fun j hj=>tokF_take tz Q j hj) hr)⟩⟩,h4,bTn hw h4⟩) rfl rfl rfl rfl (Nat.le_of_ble_eq_true rfl) ?_
   intro a W9 hs hd hkp hS9 hval
   have e14:a.tmps.getD 14 undef=.int .i64 0:=hval 13 14 (by decide) rfl
   obtain⟨ra,rc,e12,f12⟩:=hval 11 12 (by decide) rfl
   obtain⟨oa,oc,e13,f13⟩:=hval 12 13 (by decide) rfl
   have ep:=fPu [64,65,66,67,68,69,70,63,71,72,73,12,13,14] hs hd (fun s h=>hkp s (fun i hi e=>h (by
    rcases (show i=0∨i=1∨i=2∨i=3∨i=4∨i=5∨i=6∨i=7∨i=8∨i=9∨i=10∨i=11∨i=12∨i=13 by omega) with rfl|rfl|rfl|rfl|rfl|rfl|rfl|rfl|rfl|rfl|rfl|rfl|rfl|rfl<;>(simp only[fw11D,Option.some.injEq] at e;subst e;simp))))
   simp only[List.foldl] at ep
   rw[e14] at ep
   rw[e12] at ep
   rw[e13] at ep
   have H9:=hdn hS9
   clear hs hd hkp hval hS9 e14 e12 e13
   generalize a.tmps.getD 64 undef=g64,a.tmps.getD 65 undef=g65,a.tmps.getD 66 undef=g66,a.tmps.getD 67 undef=g67,a.tmps.getD 68 undef=g68,a.tmps.getD 69 undef=g69,a.tmps.getD 70 undef=g70,a.tmps.getD 63 undef=g63,a.tmps.getD 71 undef=g71,a.tmps.getD 72 undef=g72,a.tmps.getD 73 undef=g73 at ep
   simp only[Act.put,List.setIfInBounds_toArray,List.set_cons_succ,List.set_cons_zero] at ep
   subst ep
   have hbE':Below W6.heap.size W6 W9:=H9.out
   have hbE:=bTn HB.out hbE'
   have qkE:=qk.kept hbE'
   obtain⟨k0,k1,k2,k3,k4,k5,k6,k7,k8,k9,k10⟩:=qkE.c11
   obtain⟨A3,C3,g3⟩:=f12
   obtain⟨A4,C4,g4⟩:=f13
   have KA:=hdn (fun W (hW:Below W6.heap.size W6 W) (hV:Below W9.heap.size W9 W)=>samerows_call u Q uk A C ra rc A3 C3 (rowF (Md.mk cd ch cl cv cu cx ct cn m R S ad9) (tokF tz)) W ((g1.less hQt).below hW) (g3.below hV))
   have KB:=hdn (fun W (hW:Below W6.heap.size W6 W) (hV:Below W9.heap.size W9 W)=>samerows_call u2 Q uk2 A2 C2 oa oc A4 C4 (outF (Md.mk cd ch cl cv cu cx ct cn m R S ad9) (tokF tz)) W ((g2.less hQt).below hW) (g4.below hV))
   have hV9:=Below.refl W9.heap.size W9
   clear g3 g4 qk qkE qm m1 qa a1 hb H9 eQ wQ wN zN eN'
   rcases u with _|x1<;>rcases u2 with _|x2
   ·obtain rfl:uk=0:=n1 rfl
    have hQ0:Q=0:=by
     rcases Nat.eq_zero_or_pos tn with h|h
     ·omega
     ·obtain⟨y,hy⟩:=g1.some_ h;cases hy
    obtain rfl:uk2=0:=n2 rfl
    have hQ0:Q=0:=by
     rcases Nat.eq_zero_or_pos tn with h|h
     ·omega
     ·obtain⟨y,hy⟩:=g2.some_ h;cases hy
    subst hQ0
    clear n1 n2 ck ck2 hte htl
    go_wp2_with (first
     | (go_at_call_of 25 rc;refine (KA.out _ hbE' hV9).mono ?_;rintro e W7 ⟨rfl,h7⟩;replace hbE:=bTn hbE h7;replace hbE':=bTn hbE' h7;replace hV9:=bTn hV9 h7;clear h7)
     | (go_at_call_of 25 oc;refine (KB.out _ hbE' hV9).mono ?_;rintro e W8 ⟨rfl,h8⟩;replace hbE:=bTn hbE h8;clear h8))
    go_ret
    exact⟨rfl,hbE⟩
   ·obtain rfl:uk=0:=n1 rfl
    have hQ0:Q=0:=by
     rcases Nat.eq_zero_or_pos tn with h|h
     ·omega
     ·obtain⟨y,hy⟩:=g1.some_ h;cases hy
    have hkuk2:(Q:Int)≤(uk2:Int):=by omega
    subst hQ0
    clear n1 n2 ck ck2 hte htl
    go_wp2_with (first
     | (go_at_call_of 25 rc;refine (KA.out _ hbE' hV9).mono ?_;rintro e W7 ⟨rfl,h7⟩;replace hbE:=bTn hbE h7;replace hbE':=bTn hbE' h7;replace hV9:=bTn hV9 h7;clear h7)
     | (go_at_call_of 25 oc;refine (KB.out _ hbE' hV9).mono ?_;rintro e W8 ⟨rfl,h8⟩;replace hbE:=bTn hbE h8;clear h8))
    go_ret
    exact⟨rfl,hbE⟩
   ·have hkuk:(Q:Int)≤(uk:Int):=by omega
    obtain rfl:uk2=0:=n2 rfl
    have hQ0:Q=0:=by
     rcases Nat.eq_zero_or_pos tn with h|h
     ·omega
     ·obtain⟨y,hy⟩:=g2.some_ h;cases hy
    subst hQ0
    clear n1 n2 ck ck2 hte htl
    go_wp2_with (first
     | (go_at_call_of 25 rc;refine (KA.out _ hbE' hV9).mono ?_;rintro e W7 ⟨rfl,h7⟩;replace hbE:=bTn hbE h7;replace hbE':=bTn hbE' h7;replace hV9:=bTn hV9 h7;clear h7)
     | (go_at_call_of 25 oc;refine (KB.out _ hbE' hV9).mono ?_;rintro e W8 ⟨rfl,h8⟩;replace hbE:=bTn hbE h8;clear h8))
    go_ret
    exact⟨rfl,hbE⟩
   ·have hkuk:(Q:Int)≤(uk:Int):=by omega
    have hkuk2:(Q:Int)≤(uk2:Int):=by omega
    clear n1 n2 ck ck2 hte htl
    go_wp2_with (first
     | (go_at_call_of 25 rc;refine (KA.out _ hbE' hV9).mono ?_;rintro e W7 ⟨rfl,h7⟩;replace hbE:=bTn hbE h7;replace hbE':=bTn hbE' h7;replace hV9:=bTn hV9 h7;clear h7)
     | (go_at_call_of 25 oc;refine (KB.out _ hbE' hV9).mono ?_;rintro e W8 ⟨rfl,h8⟩;replace hbE:=bTn hbE h8;clear h8))
    go_ret
    exact⟨rfl,hbE⟩
end
section
def nilF (f:Nat→Nat→List Int)(k i j:Nat):List Int:=if i<k∧(j=1∨j=3) then List.replicate (f i j).length 0 else f i j
def nilA (a:AdV):AdV:=⟨a.ln,nilF a.f a.ln⟩
theorem nilF_length (f:Nat→Nat→List Int)(k i j:Nat):(nilF f k i j).length=(f i j).length:=by
 unfold nilF
 split
 ·exact List.length_replicate
 ·rfl
theorem nilF_zero (f:Nat→Nat→List Int):nilF f 0=f:=by
 funext i j
 unfold nilF
 rw[if_neg (by omega)]
theorem nilF_old (f:Nat→Nat→List Int){k i j:Nat}(h:¬(i=k∧(j=1∨j=3))):nilF f (k+1) i j=nilF f k i j:=by
 unfold nilF
 by_cases hh:i<k∧(j=1∨j=3)
 ·rw[if_pos hh,if_pos ⟨by omega,hh.2⟩]
 ·rw[if_neg hh,if_neg (by omega)]
theorem nilF_new (f:Nat→Nat→List Int)(k:Nat){j:Nat}(h:j=1∨j=3):nilF f (k+1) k j=List.replicate (f k j).length 0:=if_pos ⟨by omega,h⟩
theorem nil_getD (n j:Nat):(List.replicate n (0:Int)).getD j 0=0:=by
 rw[List.getD_eq_getElem?_getD,List.getElem?_replicate]
 split<;>rfl
theorem nilA_bad {d h l v u x t n:Int}{m:ModV}{R S:Int}{a:AdV}(hE:badE (Md.mk d h l v u x t n m R S a)=0):badE (Md.mk d h l v u x t n m R S (nilA a))=0:=by
 have ok:=badE_ok hE
 refine MdOk.none_bad ⟨ok.ok,ok.ck,fun hr=>?_⟩
 have:=ok.ad hr
 unfold checkA at this ⊢
 split at this
 ·rename_i o
  rw[if_pos o]
  split at this
  ·rename_i q
   rw[if_pos ⟨q.1,lensA_iff.2 fun i hi j hj=>by show ((nilF a.f a.ln i j).length:Int)=_;rw[nilF_length];exact lensA_iff.1 q.2 i hi j hj⟩]
  ·cases this
 ·cases this
theorem bare_bad {d h l v u x t n:Int}{m:ModV}{R S:Int}{a:AdV}(hE:badE (Md.mk d h l v u x t n m R S a)=0):badE (Md.mk d h l v u x t n m 0 0 noA)=0:=by
 have ok:=badE_ok hE
 exact MdOk.none_bad ⟨ok.ok,ok.ck,fun hr=>absurd rfl hr⟩
theorem nilA_naught {d h l v u x t n:Int}{m:ModV}{R S:Int}{a:AdV}(hE:badE (Md.mk d h l v u x t n m R S a)=0)(h0:R=0→a=noA):Naught (Md.mk d h l v u x t n m R S (nilA a)):=by
 intro i hi j
 by_cases hr:R=0
 ·rw[h0 hr]
  exact⟨rfl,rfl⟩
 ·obtain⟨R',F⟩:=(badE_ok hE).adapter hr
  have e:a.ln=m.ln:=F.ln
  have hi':i<m.ln:=hi
  refine⟨?_,?_⟩
  ·show (nilF a.f a.ln i 1).getD j 0=0
   unfold nilF
   rw[if_pos ⟨by omega,.inl rfl⟩]
   exact nil_getD _ _
  ·show (nilF a.f a.ln i 3).getD j 0=0
   unfold nilF
   rw[if_pos ⟨by omega,.inr rfl⟩]
   exact nil_getD _ _
theorem adV_short {d h l v u x t n:Int}(ok:okB d h l v u x t n=true)(rank s:Int):(adV rank d l s).ln≤2∧∀ i j,((adV rank d l s).f i j).length≤32:=by
 have r:=right_of ok
 have hb:=adR_bounds rank
 have d0:=r.d0
 have d1:=r.d1
 have l1:=r.l1
 unfold adV
 split
 ·exact⟨by show 0≤2;omega,fun i j=>by show ([]:List Int).length≤32;simp⟩
 ·refine⟨by show l.toNat≤2;omega,fun i j=>?_⟩
  show (segA _ _ _).length≤32
  unfold segA
  rw[List.length_take]
  have h1:adR rank*d≤4*8:=Int.mul_le_mul hb.2 d1 (by omega) (by omega)
  omega
theorem made_row {t:TypeId}{W:World}{b n:Nat}(q:Blk t W b (madeCells #[.int .i8 0] n))(hn:n≤100000):IsS W ⟨some ⟨b,0,none⟩,n,n⟩ (List.replicate n 0) :=
 ⟨⟨List.length_replicate,(by show n≤_;omega),fun i=>by rw[nil_getD];exact wf_nought _,fun _=>⟨_,rfl⟩,fun x hx i hi=>by
  obtain rfl:=Option.some.inj hx
  have hi':i<n:=hi
  rw[add_at,nil_getD]
  refine q.cell i ?_
  simp[madeCells,hi',Nat.mod_one]⟩,(fun h=>by cases h),Nat.le_refl _⟩
theorem TA.relaid {B:Nat}{w w':World}{g cap n k b1 b3:Nat}{cur:Array Value}{Y:Nat→Nat→SL}{f:Nat→Nat→List Int}(h:TA B w (.slice (some ⟨g,0,none⟩) n cap) n Y (nilF f k))(qg:Blk 61 w g cur)(hk:k<n)(hB:B≤w.heap.size)(hsh:∀ i j,(f i j).length≤32)
  (on:Only g w w') (g1:w.heap.size≤b1) (g3:w.heap.size≤b3) (q1:Blk 73 w' b1 (madeCells #[.int .i8 0] (Y k 1).n)) (q3:Blk 73 w' b3 (madeCells #[.int .i8 0] (Y k 3).n))
  (hr:RowN w' g cur (k*4+1) (k*4+3) true true (.slice (some ⟨b1,0,none⟩) (Y k 1).n (Y k 1).n) (.slice (some ⟨b3,0,none⟩) (Y k 3).n (Y k 3).n)) :
  ∃ Y',TA B w' (.slice (some ⟨g,0,none⟩) n cap) n Y' (nilF f (k+1)):=by
 obtain⟨cs,qs,hcs,hat⟩:=hr
 have K73:Keeps 73 w w':=Keeps.of_only on qg (by decide)
 rcases h.own.2 with⟨e,_⟩|⟨g',cap',cur',e,hg,hh,hcap,hm,hc1,hc2⟩
 ·cases e
 simp only[Value.slice.injEq,Option.some.injEq,Addr.mk.injEq,and_true,true_and] at e
 obtain⟨rfl,rfl⟩:=e
 have ec:cur'=cur:=by
  have:=(show w.heap[g]? = _ from qg).symm.trans hh
  simp at this
  exact this.symm
 subst ec
 have len1:(Y k 1).n=(f k 1).length:=by rw[←(h.lay k hk 1 (by omega)).is.reads.len,nilF_length]
 have len3:(Y k 3).n=(f k 3).length:=by rw[←(h.lay k hk 3 (by omega)).is.reads.len,nilF_length]
 refine⟨fun i j=>if i=k∧j=1 then ⟨some ⟨b1,0,none⟩,(Y k 1).n,(Y k 1).n⟩ else if i=k∧j=3 then ⟨some ⟨b3,0,none⟩,(Y k 3).n,(Y k 3).n⟩ else Y i j,⟨cells4_len _ _,.inr ⟨g,cap,cs,rfl,hg,qs,hcap,hm,by rw[hcs];exact hc1,?_⟩⟩,fun i hi j hj=>?_⟩
 ·refine List.ext_getElem? fun i=>?_
  by_cases hi:i<n*4
  ·obtain⟨a,r,ha,hr',rfl⟩:∃ a r,a<n∧r<4∧i=a*4+r:=⟨i/4,i%4,by omega,by omega,by omega⟩
   rw[cells4_at _ n a r ha hr',List.getElem?_take_of_lt hi,Array.getElem?_toList,hat]
   have old:cur'[a*4+r]? = some (Y a r).v:=by
    have:=cells4_at Y n a r ha hr'
    rw[←hc2,List.getElem?_take_of_lt hi,Array.getElem?_toList] at this
    exact this
   by_cases c1:a=k∧r=1
   ·rw[if_pos ⟨rfl,by omega⟩,if_pos c1]
    rfl
   ·by_cases c3:a=k∧r=3
    ·rw[if_neg (by omega),if_pos ⟨rfl,by omega⟩,if_neg c1,if_pos c3]
     rfl
    ·rw[if_neg (by omega),if_neg (by omega),if_neg c1,if_neg c3,old]
  ·rw[List.getElem?_eq_none (by rw[List.length_take];omega),List.getElem?_eq_none (by rw[cells4_len];omega)]
 ·by_cases c1:i=k∧j=1
  ·obtain⟨rfl,rfl⟩:=c1
   rw[if_pos ⟨rfl,rfl⟩,nilF_new f i (.inl rfl),←len1]
   exact⟨made_row q1 (by rw[len1];have:=hsh i 1;omega),fun x hx=>by obtain rfl:=Option.some.inj hx;exact⟨Nat.le_trans hB g1,_,_,q1⟩⟩
  ·by_cases c3:i=k∧j=3
   ·obtain⟨rfl,rfl⟩:=c3
    rw[if_neg (by omega),if_pos ⟨rfl,rfl⟩,nilF_new f i (.inr rfl),←len3]
    exact⟨made_row q3 (by rw[len3];have:=hsh i 3;omega),fun x hx=>by obtain rfl:=Option.some.inj hx;exact⟨Nat.le_trans hB g3,_,_,q3⟩⟩
   ·rw[if_neg c1,if_neg c3,nilF_old f (by omega)]
    exact (h.lay i hi j hj).step K73
end
end Go.Proofs.YthliomlmhfjhnaaGreat

/- Texts put together. -/
import Derived.Test.YthliomlmhfjhnaaGreatZs32
import Derived.Test.YthliomlmhfjhnaaGreatZs3
import Derived.ChangeMaps5
import Derived.ChangeOld
import Derived.SizedLaws
namespace Go.Proofs.YthliomlmhfjhnaaGreat
set_option maxRecDepth 20000
set_option maxHeartbeats 16000000
open Go.ChangeShapes Go.WideShapes Go.ChangeAt Go.RowKit
set_option linter.unusedVariables false
set_option linter.unusedSimpArgs false
section
theorem by73:Tryz.prog.bytesOf 73=1:=by kernel_rfl
theorem by24:Tryz.prog.bytesOf 24=24:=by kernel_rfl
theorem ce24:Tryz.prog.cellsOf 24=1:=by kernel_rfl
theorem ce63:Tryz.prog.cellsOf 63=1:=by kernel_rfl
theorem ce25:Tryz.prog.cellsOf 25=1:=by kernel_rfl
theorem ce65:Tryz.prog.cellsOf 65=9:=by kernel_rfl
theorem ce27:Tryz.prog.cellsOf 27=12:=by kernel_rfl
def Small {H:Type}(d:DataW H)(t:TypeId):Prop:=∀ m∈d.weights Tryz.prog t,m≤reachBytes
theorem weights_all {H:Type}{P:Program}{e:TypeId}{d:DataW H}{m:Nat}:∀ {l:List (DataW H)},d∈l→m∈d.weights P e→m∈DataW.weightsAll P e l
 | x :: l,h,hm=>by
  simp only[DataW.weightsAll,List.mem_append]
  rcases List.mem_cons.1 h with rfl|h
  ·exact .inl hm
  ·exact .inr (weights_all h hm)
theorem choose_below {α:Type}(d0:α){n:Nat}{p:Nat→α→Prop}(h:∀ i,i<n→∃ a,p i a):∃ F:Nat→α,∀ i,i<n→p i (F i):=by
 refine⟨fun i=>if hi:i<n then (h i hi).choose else d0,fun i hi=>?_⟩
 simp only[dif_pos hi]
 exact (h i hi).choose_spec
theorem sFi {H:Type}{t:TypeId}{fs:Array Field}{parts:List (DataW H)}(hu:Tryz.prog.underlying t=some (.struct fs))(hs:Small (.agg parts) t){j:Nat}{f:Field}{d:DataW H}(hf:fs.toList[j]? = some f)(hd:parts[j]? = some d):Small d f.type:=by
 intro m hm
 refine hs m ?_
 simp only[DataW.weights,hu]
 exact DataW.weights_mem_each (j:=j) (by simp[hf]) hd m hm
section
variable {H:Type}{enc:TypeId × Value→H}{W:World}{fuel:Nat}
theorem open_s {c:Value}{x:DataW H × List MemPlace}(h:DataW.trod enc Tryz.prog W 0 (fun _=>true) true fuel 24 [c]=some x):∃ (s:SL) (zs:List Int),c=s.v∧IsS W s zs∧(Small x.1 24→zs.length≤140737488351232):=by
 rcases open_ints Tryz.underlying24 Tryz.underlying73 (by kernel_rfl) h with⟨hcs,hd⟩|⟨y,l,cp,zs,hcs,_,hl,hm,hz,hd,hcell,hwz⟩
 ·obtain rfl:c=.slice none 0 0:=by simpa using hcs
  exact⟨⟨none,0,0⟩,[],rfl,IsS.none_ _,fun _=>by simp⟩
 ·obtain rfl:c=.slice (some y) l cp:=by simpa using hcs
  have hz':zs.length=cp:=by simpa using hz
  refine⟨⟨some y,l,cp⟩,zs.take l,rfl,⟨Reads.of_open hl hm hz' hcell hwz,(fun h=>by cases h),hl⟩,fun hs=>?_⟩
  have hd':x.1=_:=congrArg Prod.fst hd
  rw[hd'] at hs
  have:=hs _ (by simp only[DataW.weights,Tryz.underlying24,by73];exact List.mem_cons_self)
  simp only[lits,List.length_map,List.length_take,List.length_drop,reachBytes] at this
  rw[List.length_take]
  omega
theorem open_g {c:Value}{x:DataW H × List MemPlace}(h:DataW.trod enc Tryz.prog W 0 (fun _=>true) true fuel 63 [c]=some x):∃ (s:SL) (R:Nat→SL) (Z:Nat→List Int),c=s.v∧IsG W s s.n R Z∧s.n≤9223372036854775807∧(Small x.1 63→s.n*24≤140737488351232∧∀ j,j<s.n→(Z j).length≤140737488351232):=by
 rcases Go.Deep.open_slice1 Tryz.underlying63 ce24 h with⟨hcs,hd⟩|⟨a,len,cap,m,n,V,D,Pl,hcs,_,hl,hm,hmm,rfl,hx⟩
 ·obtain rfl:c=.slice none 0 0:=by simpa using hcs
  exact⟨⟨none,0,0⟩,fun _=>SL.nought,fun _=>[],rfl,⟨rfl,(fun h=>by cases h),fun _=>rfl,Nat.le_refl _,(fun x hx=>by cases hx),fun j hj=>by cases hj⟩,Nat.zero_le _,fun _=>⟨Nat.zero_le _,fun j hj=>by cases hj⟩⟩
 ·obtain rfl:c=.slice (some a) len cap:=by simpa using hcs
  have hlm:len≤m:=by rw[hmm];simp;exact hl
  obtain⟨F,hF⟩:=choose_below ((SL.nought,[]):SL × List Int) (n:=len) (p:=fun j p=>V j=p.1.v∧IsS W p.1 p.2∧(Small (D j) 24→p.2.length≤140737488351232)) (fun j hj=>by
   obtain⟨s,zs,e1,e2,e3⟩:=open_s (hx j (by omega)).2
   exact⟨(s,zs),e1,e2,e3⟩)
  refine⟨⟨some a,len,cap⟩,fun j=>(F j).1,fun j=>(F j).2,rfl,⟨rfl,fun _=>⟨_,rfl⟩,(fun h=>by cases h),hl,fun x hx' j hj=>?_,fun j hj=>(hF j hj).2.1⟩,by show len≤_;unfold maxLen at hm;omega,fun hs=>?_⟩
  ·obtain rfl:=Option.some.inj hx'
   have hj':j<len:=hj
   rw[(hx j (by omega)).1,(hF j hj).1]
  ·have unf:∀ (el sp:List (DataW H)),(DataW.slice el sp).weights Tryz.prog 63=(el.length+sp.length)*Tryz.prog.bytesOf 24 :: (DataW.weightsAll Tryz.prog 24 el++DataW.weightsAll Tryz.prog 24 sp):=fun el sp=>by simp only[DataW.weights,Tryz.underlying63]
   refine⟨?_,fun j hj=>(hF j hj).2.2 fun q hq=>hs q ?_⟩
   ·have:=hs _ (by rw[unf];exact List.mem_cons_self)
    simp only[List.length_map,List.length_range,by24,reachBytes] at this
    show len*24≤_
    omega
   ·rw[unf]
    exact List.mem_cons_of_mem _ (List.mem_append_left _ (weights_all (List.mem_map.2 ⟨j,List.mem_range.2 hj,rfl⟩) hq))
structure LayV where
 Y:Nat→SL
 U:Nat→SL
 D:Nat→SL
 f:Nat→List Int
 un:Nat
 dn:Nat
 u:Nat→List Int
 d:Nat→List Int
def LayV.nought:LayV:=⟨fun _=>SL.nought,fun _=>SL.nought,fun _=>SL.nought,fun _=>[],0,0,fun _=>[],fun _=>[]⟩
structure LayFits (y:LayV):Prop where
 f:∀ j,j<7→(y.f j).length≤140737488351232
 un:y.un*24≤140737488351232
 dn:y.dn*24≤140737488351232
 u:∀ j,j<y.un→(y.u j).length≤140737488351232
 d:∀ j,j<y.dn→(y.d j).length≤140737488351232
theorem open_y {c0 c1 c2 c3 c4 c5 c6 c7 c8:Value}{x:DataW H × List MemPlace}(h:DataW.trod enc Tryz.prog W 0 (fun _=>true) true fuel 65 [c0,c1,c2,c3,c4,c5,c6,c7,c8]=some x) :
  ∃ y:LayV,(∀ j,j<9→[c0,c1,c2,c3,c4,c5,c6,c7,c8][j]? = some (y.Y j).v)∧IsY W y.Y y.U y.D y.f y.un y.dn y.u y.d∧(Small x.1 65→LayFits y):=by
 obtain⟨xs,n,-,ex,-,hlen,hf⟩:=DataW.trod_struct Tryz.underlying65 h
 have hl:xs.length=9:=hlen.trans (by rfl)
 match xs,hl with
 | [x0,x1,x2,x3,x4,x5,x6,x7,x8],_ =>
 have g0:DataW.trod enc Tryz.prog W 0 (fun _=>true) true n 24 [c0]=some x0:=by rw[show [c0]=([c0,c1,c2,c3,c4,c5,c6,c7,c8].drop 0).take (Tryz.prog.cellsOf 24) by rw[ce24];rfl];exact hf 0 _ rfl
 have g1:DataW.trod enc Tryz.prog W 0 (fun _=>true) true n 24 [c1]=some x1:=by rw[show [c1]=([c0,c1,c2,c3,c4,c5,c6,c7,c8].drop 1).take (Tryz.prog.cellsOf 24) by rw[ce24];rfl];exact hf 1 _ rfl
 have g2:DataW.trod enc Tryz.prog W 0 (fun _=>true) true n 24 [c2]=some x2:=by rw[show [c2]=([c0,c1,c2,c3,c4,c5,c6,c7,c8].drop 2).take (Tryz.prog.cellsOf 24) by rw[ce24];rfl];exact hf 2 _ rfl
 have g3:DataW.trod enc Tryz.prog W 0 (fun _=>true) true n 24 [c3]=some x3:=by rw[show [c3]=([c0,c1,c2,c3,c4,c5,c6,c7,c8].drop 3).take (Tryz.prog.cellsOf 24) by rw[ce24];rfl];exact hf 3 _ rfl
 have g4:DataW.trod enc Tryz.prog W 0 (fun _=>true) true n 24 [c4]=some x4:=by rw[show [c4]=([c0,c1,c2,c3,c4,c5,c6,c7,c8].drop 4).take (Tryz.prog.cellsOf 24) by rw[ce24];rfl];exact hf 4 _ rfl
 have g5:DataW.trod enc Tryz.prog W 0 (fun _=>true) true n 24 [c5]=some x5:=by rw[show [c5]=([c0,c1,c2,c3,c4,c5,c6,c7,c8].drop 5).take (Tryz.prog.cellsOf 24) by rw[ce24];rfl];exact hf 5 _ rfl
 have g6:DataW.trod enc Tryz.prog W 0 (fun _=>true) true n 24 [c6]=some x6:=by rw[show [c6]=([c0,c1,c2,c3,c4,c5,c6,c7,c8].drop 6).take (Tryz.prog.cellsOf 24) by rw[ce24];rfl];exact hf 6 _ rfl
 have g7:DataW.trod enc Tryz.prog W 0 (fun _=>true) true n 63 [c7]=some x7:=by rw[show [c7]=([c0,c1,c2,c3,c4,c5,c6,c7,c8].drop 7).take (Tryz.prog.cellsOf 63) by rw[ce63];rfl];exact hf 7 _ rfl
 have g8:DataW.trod enc Tryz.prog W 0 (fun _=>true) true n 63 [c8]=some x8:=by rw[show [c8]=([c0,c1,c2,c3,c4,c5,c6,c7,c8].drop 8).take (Tryz.prog.cellsOf 63) by rw[ce63];rfl];exact hf 8 _ rfl
 obtain⟨s0,z0,e0,i0,w0⟩:=open_s g0
 obtain⟨s1,z1,e1,i1,w1⟩:=open_s g1
 obtain⟨s2,z2,e2,i2,w2⟩:=open_s g2
 obtain⟨s3,z3,e3,i3,w3⟩:=open_s g3
 obtain⟨s4,z4,e4,i4,w4⟩:=open_s g4
 obtain⟨s5,z5,e5,i5,w5⟩:=open_s g5
 obtain⟨s6,z6,e6,i6,w6⟩:=open_s g6
 obtain⟨s7,R7,Z7,e7,i7,b7,w7⟩:=open_g g7
 obtain⟨s8,R8,Z8,e8,i8,b8,w8⟩:=open_g g8
 refine⟨⟨nine s0 s1 s2 s3 s4 s5 s6 s7 s8,R7,R8,fun j=>[z0,z1,z2,z3,z4,z5,z6].getD j [],s7.n,s8.n,Z7,Z8⟩,fun j hj=>?_,⟨fun j hj=>?_,i7,i8⟩,fun hs=>?_⟩
 ·subst e0 e1 e2 e3 e4 e5 e6 e7 e8
  rcases (show j=0∨j=1∨j=2∨j=3∨j=4∨j=5∨j=6∨j=7∨j=8 by omega) with rfl|rfl|rfl|rfl|rfl|rfl|rfl|rfl|rfl<;>rfl
 ·rcases (show j=0∨j=1∨j=2∨j=3∨j=4∨j=5∨j=6 by omega) with rfl|rfl|rfl|rfl|rfl|rfl|rfl<;>assumption
 ·rw[ex] at hs
  refine⟨fun j hj=>?_,(w7 (sFi Tryz.underlying65 hs (j:=7) rfl rfl)).1,(w8 (sFi Tryz.underlying65 hs (j:=8) rfl rfl)).1,(w7 (sFi Tryz.underlying65 hs (j:=7) rfl rfl)).2,(w8 (sFi Tryz.underlying65 hs (j:=8) rfl rfl)).2⟩
  rcases (show j=0∨j=1∨j=2∨j=3∨j=4∨j=5∨j=6 by omega) with rfl|rfl|rfl|rfl|rfl|rfl|rfl
  ·exact w0 (sFi Tryz.underlying65 hs (j:=0) rfl rfl)
  ·exact w1 (sFi Tryz.underlying65 hs (j:=1) rfl rfl)
  ·exact w2 (sFi Tryz.underlying65 hs (j:=2) rfl rfl)
  ·exact w3 (sFi Tryz.underlying65 hs (j:=3) rfl rfl)
  ·exact w4 (sFi Tryz.underlying65 hs (j:=4) rfl rfl)
  ·exact w5 (sFi Tryz.underlying65 hs (j:=5) rfl rfl)
  ·exact w6 (sFi Tryz.underlying65 hs (j:=6) rfl rfl)
theorem open_l {c:Value}{x:DataW H × List MemPlace}(h:DataW.trod enc Tryz.prog W 0 (fun _=>true) true fuel 25 [c]=some x):∃ (s:SL) (F:Nat→LayV),c=s.v∧(0<s.n→∃ x,s.a=some x)∧(s.a=none→s.c=0)∧s.n≤s.c∧s.n≤9223372036854775807 ∧
  (∀ x,s.a=some x→∀ i,i<s.n→∀ j,j<9→W.cell? ((x.add (i*9)).add j)=some ((F i).Y j).v)∧(∀ i,i<s.n→IsY W (F i).Y (F i).U (F i).D (F i).f (F i).un (F i).dn (F i).u (F i).d)∧(Small x.1 25→∀ i,i<s.n→LayFits (F i)):=by
 rcases Go.Deep.open_slice Tryz.underlying25 h with⟨hcs,hd⟩|⟨a,len,cap,m,n,D,Pl,hcs,_,hl,hm,hmm,rfl,hx⟩
 ·obtain rfl:c=.slice none 0 0:=by simpa using hcs
  exact⟨⟨none,0,0⟩,fun _=>LayV.nought,rfl,(fun h=>by cases h),fun _=>rfl,Nat.le_refl _,Nat.zero_le _,(fun x hx=>by cases hx),(fun i hi=>by cases hi),fun _ i hi=>by cases hi⟩
 ·obtain rfl:c=.slice (some a) len cap:=by simpa using hcs
  have hlm:len≤m:=by rw[hmm];simp;exact hl
  rw[ce65] at hx
  obtain⟨F,hF⟩:=choose_below LayV.nought (n:=len) (p:=fun i y=>(∀ j,j<9→W.cell? ((a.add (i*9)).add j)=some (y.Y j).v)∧IsY W y.Y y.U y.D y.f y.un y.dn y.u y.d∧(Small (D i) 65→LayFits y)) (fun i hi=>by
   obtain⟨cs',h1,h2⟩:=hx i (by omega)
   obtain⟨q1,hlen,q3⟩:=World.cells?_some h1
   match cs',hlen with
   | [c0,c1,c2,c3,c4,c5,c6,c7,c8],_ =>
    obtain⟨y,ey,iy,wy⟩:=open_y h2
    exact⟨y,fun j hj=>(q3 j hj).trans (ey j hj),iy,wy⟩)
  refine⟨⟨some a,len,cap⟩,F,rfl,fun _=>⟨_,rfl⟩,(fun h=>by cases h),hl,by show len≤_;unfold maxLen at hm;omega,fun x hx' i hi=>?_,fun i hi=>(hF i hi).2.1,fun hs i hi=>(hF i hi).2.2 fun q hq=>hs q ?_⟩
  ·obtain rfl:=Option.some.inj hx'
   exact (hF i hi).1
  ·have unf:∀ (el sp:List (DataW H)),(DataW.slice el sp).weights Tryz.prog 25=(el.length+sp.length)*Tryz.prog.bytesOf 65 :: (DataW.weightsAll Tryz.prog 65 el++DataW.weightsAll Tryz.prog 65 sp):=fun el sp=>by simp only[DataW.weights,Tryz.underlying25]
   rw[unf]
   exact List.mem_cons_of_mem _ (List.mem_append_left _ (weights_all (List.mem_map.2 ⟨i,List.mem_range.2 hi,rfl⟩) hq))
theorem array12 {α:Type}{cs:Array α}(h:cs.size=12):∃ c0 c1 c2 c3 c4 c5 c6 c7 c8 c9 c10 c11,cs=#[c0,c1,c2,c3,c4,c5,c6,c7,c8,c9,c10,c11]:=by
 obtain⟨l⟩:=cs
 match l,h with
 | [c0,c1,c2,c3,c4,c5,c6,c7,c8,c9,c10,c11],_=>exact⟨c0,c1,c2,c3,c4,c5,c6,c7,c8,c9,c10,c11,rfl⟩
theorem open_model {b0:Nat}{r:Reach}{v:Value}{dd:DataW H}{p:List MemPlace}(hv:Value.okWide Tryz.prog W r b0 27 v)(h:DataW.Trod enc Tryz.prog W 0 (fun _=>true) true 27 v dd p) :
  ∃ (d h l v' u x t n:Int) (E L N O:SL) (Y U D:Nat→Nat→SL) (m:ModV),v=.agg #[.int .i64 d,.int .i64 h,.int .i64 l,.int .i64 v',.int .i64 u,.int .i64 x,.int .i64 t,.int .i64 n,.slice E.a E.n E.c,.slice L.a L.n L.c,.slice N.a N.n N.c,.slice O.a O.n O.c] ∧
   ModAt W E L N O Y U D m∧m.ln≤9223372036854775807∧(Small dd 27→m.ln≤20→Fits m):=by
 obtain⟨cs,rfl,hsz⟩:=okWide_struct Tryz.underlying27 hv
 obtain⟨c0,c1,c2,c3,c4,c5,c6,c7,c8,c9,c10,c11,rfl⟩:=array12 (hsz.trans ce27)
 obtain⟨fuel,hf⟩:=h
 have hf':DataW.trod enc Tryz.prog W 0 (fun _=>true) true fuel 27 [c0,c1,c2,c3,c4,c5,c6,c7,c8,c9,c10,c11]=some (dd,p):=by simpa [Value.cells] using hf
 obtain⟨xs,n,-,ex,-,hlen,hg⟩:=DataW.trod_struct Tryz.underlying27 hf'
 have hl:xs.length=5:=hlen.trans (by rfl)
 match xs,hl with
 | [x0,x1,x2,x3,x4],_ =>
 have g0:DataW.trod enc Tryz.prog W 0 (fun _=>true) true n 23 [c0,c1,c2,c3,c4,c5,c6,c7]=some x0:=by rw[show [c0,c1,c2,c3,c4,c5,c6,c7]=([c0,c1,c2,c3,c4,c5,c6,c7,c8,c9,c10,c11].drop 0).take (Tryz.prog.cellsOf 23) by rw[cells23];rfl];exact hg 0 _ rfl
 have g1:DataW.trod enc Tryz.prog W 0 (fun _=>true) true n 24 [c8]=some x1:=by rw[show [c8]=([c0,c1,c2,c3,c4,c5,c6,c7,c8,c9,c10,c11].drop 8).take (Tryz.prog.cellsOf 24) by rw[ce24];rfl];exact hg 1 _ rfl
 have g2:DataW.trod enc Tryz.prog W 0 (fun _=>true) true n 25 [c9]=some x2:=by rw[show [c9]=([c0,c1,c2,c3,c4,c5,c6,c7,c8,c9,c10,c11].drop 9).take (Tryz.prog.cellsOf 25) by rw[ce25];rfl];exact hg 2 _ rfl
 have g3:DataW.trod enc Tryz.prog W 0 (fun _=>true) true n 24 [c10]=some x3:=by rw[show [c10]=([c0,c1,c2,c3,c4,c5,c6,c7,c8,c9,c10,c11].drop 10).take (Tryz.prog.cellsOf 24) by rw[ce24];rfl];exact hg 3 _ rfl
 have g4:DataW.trod enc Tryz.prog W 0 (fun _=>true) true n 24 [c11]=some x4:=by rw[show [c11]=([c0,c1,c2,c3,c4,c5,c6,c7,c8,c9,c10,c11].drop 11).take (Tryz.prog.cellsOf 24) by rw[ce24];rfl];exact hg 4 _ rfl
 obtain⟨d,h,l,v,u,x,t,nn,e0,e1,e2,e3,e4,e5,e6,e7⟩:=cfg_cells g0
 obtain⟨E,zE,eE,iE,wE⟩:=open_s g1
 obtain⟨L,F,eL,L1,L2,L3,L4,L5,L6,wL⟩:=open_l g2
 obtain⟨N,zN,eN,iN,wN⟩:=open_s g3
 obtain⟨O,zO,eO,iO,wO⟩:=open_s g4
 subst e0 e1 e2 e3 e4 e5 e6 e7 eE eL eN eO
 refine⟨d,h,l,v,u,x,t,nn,E,L,N,O,fun i=>(F i).Y,fun i=>(F i).U,fun i=>(F i).D,⟨zE,zN,zO,L.n,fun i=>(F i).f,fun i=>(F i).un,fun i=>(F i).dn,fun i=>(F i).u,fun i=>(F i).d⟩,rfl,⟨iE,iN,iO,rfl,L1,L2,L3,L5,L6⟩,L4,fun hs h20=>?_⟩
 have ed:dd=.agg [x0.1,x1.1,x2.1,x3.1,x4.1]:=congrArg Prod.fst ex
 rw[ed] at hs
 have sL:=wL (sFi Tryz.underlying27 hs (j:=2) rfl rfl)
 exact⟨wE (sFi Tryz.underlying27 hs (j:=1) rfl rfl),wN (sFi Tryz.underlying27 hs (j:=3) rfl rfl),wO (sFi Tryz.underlying27 hs (j:=4) rfl rfl),h20,fun i hi=>(sL i hi).f,fun i hi=>(sL i hi).un,fun i hi=>(sL i hi).dn,fun i hi=>(sL i hi).u,fun i hi=>(sL i hi).d⟩
end
end
end Go.Proofs.YthliomlmhfjhnaaGreat

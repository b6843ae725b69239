/- Texts put together. -/
import Derived.Test.YthliomlmhfjhnaaGreatZs24
import Derived.Test.YthliomlmhfjhnaaGreatZs21
import Derived.Test.YthliomlmhfjhnaaGreatZs29
namespace Go.Proofs.YthliomlmhfjhnaaGreat
set_option maxRecDepth 20000
set_option maxHeartbeats 16000000
open Go.ChangeShapes Go.WideShapes Go.ChangeAt Go.RowKit
set_option linter.unusedVariables false
set_option linter.unusedSimpArgs false
theorem IsS.same {w:World}{s s':SL}{zs:List Int}(h:IsS w s zs)(h':IsS w s' zs)(c c':Nat):Calls Tryz.prog 37 #[.slice s.a s.n c,.slice s'.a s'.n c'] w fun e w'=>e=.returned (.bool true)∧∃ m,w'=w.drewN m :=
 cksame_call s.a s.n c zs s'.a s'.n c' w h.reads h'.reads
theorem Blk.c9 {t0:TypeId}{w:World}{b:Nat}{x0 x1 x2 x3 x4 x5 x6 x7 x8:Value}(k:Blk t0 w b #[x0,x1,x2,x3,x4,x5,x6,x7,x8]):w.cell? ⟨b,0,none⟩=some x0∧w.cell? ⟨b,1,none⟩=some x1∧w.cell? ⟨b,2,none⟩=some x2∧w.cell? ⟨b,3,none⟩=some x3∧w.cell? ⟨b,4,none⟩=some x4∧w.cell? ⟨b,5,none⟩=some x5∧w.cell? ⟨b,6,none⟩=some x6∧w.cell? ⟨b,7,none⟩=some x7∧w.cell? ⟨b,8,none⟩=some x8 :=
 ⟨k.cell 0 rfl,k.cell 1 rfl,k.cell 2 rfl,k.cell 3 rfl,k.cell 4 rfl,k.cell 5 rfl,k.cell 6 rfl,k.cell 7 rfl,k.cell 8 rfl⟩
theorem drew_cell {W W0:World}(h:∃ m,W=W0.drewN m){p:Addr}{v:Value}(hp:W0.cell? p=some v):W.cell? p=some v:=by
 obtain⟨m,rfl⟩:=h
 exact hp
theorem drew_blk {W W0:World}(h:∃ m,W=W0.drewN m){t:TypeId}{b:Nat}{cs:Array Value}(hp:Blk t W0 b cs):Blk t W b cs:=by
 obtain⟨m,rfl⟩:=h
 exact hp
theorem drew_then {W W' W0:World}(h:∃ m,W=W0.drewN m)(k:∃ m,W'=W.drewN m):∃ m,W'=W0.drewN m:=by
 obtain⟨m,rfl⟩:=h
 obtain⟨n,rfl⟩:=k
 exact⟨_,World.drewN_drewN _ _ _⟩
theorem drew_is {W W0:World}(h:∃ m,W=W0.drewN m){s:SL}{zs:List Int}(hp:IsS W0 s zs):IsS W s zs:=by
 obtain⟨m,rfl⟩:=h
 exact hp.drewN m
theorem sameLayer_walk (Y U D Y' U' D':Nat→SL)(f:Nat→List Int)(un dn:Nat)(u d:Nat→List Int)(w:World)(hA:IsY w Y U D f un dn u d)(hB:IsY w Y' U' D' f un dn u d)(hu:un≤9223372036854775807)(hd:dn≤9223372036854775807) :
  Calls Tryz.prog 38 #[.agg #[.slice (Y 0).a (Y 0).n (Y 0).c,.slice (Y 1).a (Y 1).n (Y 1).c,.slice (Y 2).a (Y 2).n (Y 2).c,.slice (Y 3).a (Y 3).n (Y 3).c,.slice (Y 4).a (Y 4).n (Y 4).c,.slice (Y 5).a (Y 5).n (Y 5).c,.slice (Y 6).a (Y 6).n (Y 6).c,.slice (Y 7).a un (Y 7).c,.slice (Y 8).a dn (Y 8).c],.agg #[.slice (Y' 0).a (Y' 0).n (Y' 0).c,.slice (Y' 1).a (Y' 1).n (Y' 1).c,.slice (Y' 2).a (Y' 2).n (Y' 2).c,.slice (Y' 3).a (Y' 3).n (Y' 3).c,.slice (Y' 4).a (Y' 4).n (Y' 4).c,.slice (Y' 5).a (Y' 5).n (Y' 5).c,.slice (Y' 6).a (Y' 6).n (Y' 6).c,.slice (Y' 7).a un (Y' 7).c,.slice (Y' 8).a dn (Y' 8).c]] w fun e w'=>e=.returned (.bool true)∧Below w.heap.size w w':=by
 obtain⟨W0,eW⟩:∃ W0,(w.alloc (.cells #[.slice (Y 0).a (Y 0).n (Y 0).c,.slice (Y 1).a (Y 1).n (Y 1).c,.slice (Y 2).a (Y 2).n (Y 2).c,.slice (Y 3).a (Y 3).n (Y 3).c,.slice (Y 4).a (Y 4).n (Y 4).c,.slice (Y 5).a (Y 5).n (Y 5).c,.slice (Y 6).a (Y 6).n (Y 6).c,.slice (Y 7).a un (Y 7).c,.slice (Y 8).a dn (Y 8).c] 65)).alloc (.cells #[.slice (Y' 0).a (Y' 0).n (Y' 0).c,.slice (Y' 1).a (Y' 1).n (Y' 1).c,.slice (Y' 2).a (Y' 2).n (Y' 2).c,.slice (Y' 3).a (Y' 3).n (Y' 3).c,.slice (Y' 4).a (Y' 4).n (Y' 4).c,.slice (Y' 5).a (Y' 5).n (Y' 5).c,.slice (Y' 6).a (Y' 6).n (Y' 6).c,.slice (Y' 7).a un (Y' 7).c,.slice (Y' 8).a dn (Y' 8).c] 65)=W0:=⟨_,rfl⟩
 have hb:Below w.heap.size w W0:=eW ▸ bNw (bNw (Below.refl _ w) _) _
 have qa:Blk 65 W0 w.heap.size #[.slice (Y 0).a (Y 0).n (Y 0).c,.slice (Y 1).a (Y 1).n (Y 1).c,.slice (Y 2).a (Y 2).n (Y 2).c,.slice (Y 3).a (Y 3).n (Y 3).c,.slice (Y 4).a (Y 4).n (Y 4).c,.slice (Y 5).a (Y 5).n (Y 5).c,.slice (Y 6).a (Y 6).n (Y 6).c,.slice (Y 7).a un (Y 7).c,.slice (Y 8).a dn (Y 8).c]:=eW ▸ (Blk.new 65 w _).kept (bNw (Below.refl _ _) _)
 have qb:Blk 65 W0 (w.heap.size+1) #[.slice (Y' 0).a (Y' 0).n (Y' 0).c,.slice (Y' 1).a (Y' 1).n (Y' 1).c,.slice (Y' 2).a (Y' 2).n (Y' 2).c,.slice (Y' 3).a (Y' 3).n (Y' 3).c,.slice (Y' 4).a (Y' 4).n (Y' 4).c,.slice (Y' 5).a (Y' 5).n (Y' 5).c,.slice (Y' 6).a (Y' 6).n (Y' 6).c,.slice (Y' 7).a un (Y' 7).c,.slice (Y' 8).a dn (Y' 8).c]:=eW ▸ Blk.new_at 65 (w.alloc _) _ _ (by simp)
 replace hA:=hA.below hb
 replace hB:=hB.below hb
 have EW:=hdn eW
 have HA:=hdn hA
 have HB:=hdn hB
 have QA:=hdn qa
 have QB:=hdn qb
 have a7:=qa.cell 7 rfl
 have a8:=qa.cell 8 rfl
 have b7:=qb.cell 7 rfl
 have b8:=qb.cell 8 rfl
 have ks7:Hid (∀ W,(∃ m,W=W0.drewN m)→∀ j,j<7→Calls Tryz.prog 37 #[.slice (Y j).a (Y j).n (Y j).c,.slice (Y' j).a (Y' j).n (Y' j).c] W fun e w'=>e=.returned (.bool true)∧∃ m,w'=W.drewN m):=fun W hW j hj =>
  (drew_is hW (HA.out.f j hj)).same (drew_is hW (HB.out.f j hj)) _ _
 clear eW hA hB qa qb
 go_enter Tryz.func38,Tryz.ntmps38
 go_wp2_with fail
 rw[EW.out]
 clear EW
 go_wp2
 go_loopw [5] (fun i wr=>∃ k:Nat,k≤un∧i=.int .i64 k∧∃ m,wr=W0.drewN m) (fun i _=>un-(intOf i).toNat)
 case atStart=>exact⟨0,Nat.zero_le _,rfl,0,rfl⟩
 case round =>
  obtain⟨k,hk,rfl,m,hw⟩:=hrel
  have c7:wr.cell? ⟨w.heap.size,7,none⟩=some (.slice (Y 7).a un (Y 7).c):=by rw[hw];exact a7
  have e7:wr.cell? ⟨w.heap.size+1,7,none⟩=some (.slice (Y' 7).a un (Y' 7).c):=by rw[hw];exact b7
  by_cases hlt:k<un
  ·obtain⟨x,ex⟩:=HA.out.u.some_ (by omega)
   obtain⟨y,ey⟩:=HB.out.u.some_ (by omega)
   have cx:wr.cell? (x.add k)=some (.slice (U k).a (U k).n (U k).c):=by rw[hw];exact HA.out.u.cell x ex k hlt
   have cy:wr.cell? (y.add k)=some (.slice (U' k).a (U' k).n (U' k).c):=by rw[hw];exact HB.out.u.cell y ey k hlt
   rw[ex] at c7
   rw[ey] at e7
   have ks:∀ n,Calls Tryz.prog 37 #[.slice (U k).a (U k).n (U k).c,.slice (U' k).a (U' k).n (U' k).c] (wr.drewN n) fun e w'=>e=.returned (.bool true)∧∃ m,w'=(wr.drewN n).drewN m:=fun n=>by
    have r1:IsS wr (U k) (u k):=by rw[hw];exact (HA.out.u.row k hlt).drewN m
    have r2:IsS wr (U' k) (u k):=by rw[hw];exact (HB.out.u.row k hlt).drewN m
    exact (r1.drewN n).same (r2.drewN n) _ _
   have Hw:Hid (wr=W0.drewN m):=hw
   have hlt':(k:Int)<(un:Int):=by omega
   clear hw a7 a8 b7 b8
   go_wp2
   go_quiet (first|(go_at_call 37;refine Calls.quiet_of (ks _)))
   go_wp2
   go_roundw
   case rel=>exact⟨k+1,by omega,by go_num,_,by rw[Hw.out,World.drewN_drewN]⟩
   case measure=>simp[intOf];omega
  ·have e:k=un:=by omega
   subst e
   have hW:∃ m,wr=W0.drewN m:=⟨m,hw⟩
   have c8:=drew_cell hW a8
   have e8:=drew_cell hW b8
   have HW:=hdn hW
   clear hw hW a7 a8 b7 b8
   rename World=>W1
   go_wp2
   go_loopw [6] (fun i wr=>∃ k:Nat,k≤dn∧i=.int .i64 k∧∃ m,wr=W0.drewN m) (fun i _=>dn-(intOf i).toNat)
   case atStart=>exact⟨0,Nat.zero_le _,rfl,HW.out⟩
   case round =>
    clear c7 e7 c8 e8 HW
    obtain⟨j,hj,rfl,hW⟩:=hrel
    obtain⟨a0,a1,a2,a3,a4,a5,a6,a7,a8⟩:=(drew_blk hW QA.out).c9
    obtain⟨b0,b1,b2,b3,b4,b5,b6,b7,b8⟩:=(drew_blk hW QB.out).c9
    have HW:=hdn hW
    by_cases hlj:j<dn
    ·obtain⟨x,ex⟩:=HA.out.d.some_ (by omega)
     obtain⟨y,ey⟩:=HB.out.d.some_ (by omega)
     have cx:=drew_cell hW (HA.out.d.cell x ex j hlj)
     have cy:=drew_cell hW (HB.out.d.cell y ey j hlj)
     rw[ex] at a8
     rw[ey] at b8
     unfold SL.v at cx cy
     have ks:∀ n,Calls Tryz.prog 37 #[.slice (D j).a (D j).n (D j).c,.slice (D' j).a (D' j).n (D' j).c] (wr.drewN n) fun e w'=>e=.returned (.bool true)∧∃ m,w'=(wr.drewN n).drewN m:=fun n =>
      ((drew_is hW (HA.out.d.row j hlj)).drewN n).same ((drew_is hW (HB.out.d.row j hlj)).drewN n) _ _
     have hlj':(j:Int)<(dn:Int):=by omega
     clear hW a0 a1 a2 a3 a4 a5 a6 a7 b0 b1 b2 b3 b4 b5 b6 b7
     go_wp2
     go_quiet (first|(go_at_call 37;refine Calls.quiet_of (ks _)))
     go_wp2
     go_roundw
     case rel=>exact⟨j+1,by omega,by go_num,drew_then HW.out ⟨_,rfl⟩⟩
     case measure=>simp[intOf];omega
    ·have e:j=dn:=by omega
     subst e
     clear hW
     go_wp2_with (first
      | (go_at_call 37;refine (ks7.out _ HW.out _ (by omega)).mono ?_;rintro e W5 ⟨rfl,h5⟩;replace HW:=hdn (drew_then HW.out h5);clear h5 a0 a1 a2 a3 a4 a5 a6 a7 a8 b0 b1 b2 b3 b4 b5 b6 b7 b8;obtain⟨a0,a1,a2,a3,a4,a5,a6,a7,a8⟩:=(drew_blk HW.out QA.out).c9;obtain⟨b0,b1,b2,b3,b4,b5,b6,b7,b8⟩:=(drew_blk HW.out QB.out).c9))
     go_ret
     exact⟨rfl,bDr hb HW.out⟩
theorem set8 {t:TypeId}{W:World}{b:Nat}{x0 x1 x2 x3 x4 x5 x6 x7:Value}(h:Blk t W b #[x0,x1,x2,x3,x4,x5,x6,x7])(v0 v1 v2 v3 v4 v5 v6 v7:Value) :
  ∃ W',((((((((W.setCell ⟨b,0,none⟩ v0).setCell ⟨b,1,none⟩ v1).setCell ⟨b,2,none⟩ v2).setCell ⟨b,3,none⟩ v3).setCell ⟨b,4,none⟩ v4).setCell ⟨b,5,none⟩ v5).setCell ⟨b,6,none⟩ v6).setCell ⟨b,7,none⟩ v7)=W'∧Blk t W' b #[v0,v1,v2,v3,v4,v5,v6,v7]∧Only b W W'∧W'.heap.size=W.heap.size:=by
 have z0:W.heap.size=W.heap.size:=rfl
 have s1:Blk t (W.setCell ⟨b,0,none⟩ v0) b #[v0,x1,x2,x3,x4,x5,x6,x7]:=h.set 0 v0
 have n1:=(Only.set b 0 W v0)
 have z1:(W.setCell ⟨b,0,none⟩ v0).heap.size=W.heap.size:=(by simp[World.setCell]:_=W.heap.size).trans z0
 obtain⟨W1,e1⟩:∃ W1,W.setCell ⟨b,0,none⟩ v0=W1:=⟨_,rfl⟩
 rw[e1] at s1 n1 z1 ⊢
 have s2:Blk t (W1.setCell ⟨b,1,none⟩ v1) b #[v0,v1,x2,x3,x4,x5,x6,x7]:=s1.set 1 v1
 have n2:=n1.trans (Only.set b 1 W1 v1)
 have z2:(W1.setCell ⟨b,1,none⟩ v1).heap.size=W.heap.size:=(by simp[World.setCell]:_=W1.heap.size).trans z1
 obtain⟨W2,e2⟩:∃ W2,W1.setCell ⟨b,1,none⟩ v1=W2:=⟨_,rfl⟩
 rw[e2] at s2 n2 z2 ⊢
 have s3:Blk t (W2.setCell ⟨b,2,none⟩ v2) b #[v0,v1,v2,x3,x4,x5,x6,x7]:=s2.set 2 v2
 have n3:=n2.trans (Only.set b 2 W2 v2)
 have z3:(W2.setCell ⟨b,2,none⟩ v2).heap.size=W.heap.size:=(by simp[World.setCell]:_=W2.heap.size).trans z2
 obtain⟨W3,e3⟩:∃ W3,W2.setCell ⟨b,2,none⟩ v2=W3:=⟨_,rfl⟩
 rw[e3] at s3 n3 z3 ⊢
 have s4:Blk t (W3.setCell ⟨b,3,none⟩ v3) b #[v0,v1,v2,v3,x4,x5,x6,x7]:=s3.set 3 v3
 have n4:=n3.trans (Only.set b 3 W3 v3)
 have z4:(W3.setCell ⟨b,3,none⟩ v3).heap.size=W.heap.size:=(by simp[World.setCell]:_=W3.heap.size).trans z3
 obtain⟨W4,e4⟩:∃ W4,W3.setCell ⟨b,3,none⟩ v3=W4:=⟨_,rfl⟩
 rw[e4] at s4 n4 z4 ⊢
 have s5:Blk t (W4.setCell ⟨b,4,none⟩ v4) b #[v0,v1,v2,v3,v4,x5,x6,x7]:=s4.set 4 v4
 have n5:=n4.trans (Only.set b 4 W4 v4)
 have z5:(W4.setCell ⟨b,4,none⟩ v4).heap.size=W.heap.size:=(by simp[World.setCell]:_=W4.heap.size).trans z4
 obtain⟨W5,e5⟩:∃ W5,W4.setCell ⟨b,4,none⟩ v4=W5:=⟨_,rfl⟩
 rw[e5] at s5 n5 z5 ⊢
 have s6:Blk t (W5.setCell ⟨b,5,none⟩ v5) b #[v0,v1,v2,v3,v4,v5,x6,x7]:=s5.set 5 v5
 have n6:=n5.trans (Only.set b 5 W5 v5)
 have z6:(W5.setCell ⟨b,5,none⟩ v5).heap.size=W.heap.size:=(by simp[World.setCell]:_=W5.heap.size).trans z5
 obtain⟨W6,e6⟩:∃ W6,W5.setCell ⟨b,5,none⟩ v5=W6:=⟨_,rfl⟩
 rw[e6] at s6 n6 z6 ⊢
 have s7:Blk t (W6.setCell ⟨b,6,none⟩ v6) b #[v0,v1,v2,v3,v4,v5,v6,x7]:=s6.set 6 v6
 have n7:=n6.trans (Only.set b 6 W6 v6)
 have z7:(W6.setCell ⟨b,6,none⟩ v6).heap.size=W.heap.size:=(by simp[World.setCell]:_=W6.heap.size).trans z6
 obtain⟨W7,e7⟩:∃ W7,W6.setCell ⟨b,6,none⟩ v6=W7:=⟨_,rfl⟩
 rw[e7] at s7 n7 z7 ⊢
 have s8:Blk t (W7.setCell ⟨b,7,none⟩ v7) b #[v0,v1,v2,v3,v4,v5,v6,v7]:=s7.set 7 v7
 have n8:=n7.trans (Only.set b 7 W7 v7)
 have z8:(W7.setCell ⟨b,7,none⟩ v7).heap.size=W.heap.size:=(by simp[World.setCell]:_=W7.heap.size).trans z7
 obtain⟨W8,e8⟩:∃ W8,W7.setCell ⟨b,7,none⟩ v7=W8:=⟨_,rfl⟩
 rw[e8] at s8 n8 z8 ⊢
 exact⟨_,rfl,s8,n8,z8⟩
theorem set9 {t:TypeId}{W:World}{b:Nat}{x0 x1 x2 x3 x4 x5 x6 x7 x8:Value}(h:Blk t W b #[x0,x1,x2,x3,x4,x5,x6,x7,x8])(v0 v1 v2 v3 v4 v5 v6 v7 v8:Value) :
  ∃ W',(((((((((W.setCell ⟨b,0,none⟩ v0).setCell ⟨b,1,none⟩ v1).setCell ⟨b,2,none⟩ v2).setCell ⟨b,3,none⟩ v3).setCell ⟨b,4,none⟩ v4).setCell ⟨b,5,none⟩ v5).setCell ⟨b,6,none⟩ v6).setCell ⟨b,7,none⟩ v7).setCell ⟨b,8,none⟩ v8)=W'∧Blk t W' b #[v0,v1,v2,v3,v4,v5,v6,v7,v8]∧Only b W W'∧W'.heap.size=W.heap.size:=by
 have z0:W.heap.size=W.heap.size:=rfl
 have s1:Blk t (W.setCell ⟨b,0,none⟩ v0) b #[v0,x1,x2,x3,x4,x5,x6,x7,x8]:=h.set 0 v0
 have n1:=(Only.set b 0 W v0)
 have z1:(W.setCell ⟨b,0,none⟩ v0).heap.size=W.heap.size:=(by simp[World.setCell]:_=W.heap.size).trans z0
 obtain⟨W1,e1⟩:∃ W1,W.setCell ⟨b,0,none⟩ v0=W1:=⟨_,rfl⟩
 rw[e1] at s1 n1 z1 ⊢
 have s2:Blk t (W1.setCell ⟨b,1,none⟩ v1) b #[v0,v1,x2,x3,x4,x5,x6,x7,x8]:=s1.set 1 v1
 have n2:=n1.trans (Only.set b 1 W1 v1)
 have z2:(W1.setCell ⟨b,1,none⟩ v1).heap.size=W.heap.size:=(by simp[World.setCell]:_=W1.heap.size).trans z1
 obtain⟨W2,e2⟩:∃ W2,W1.setCell ⟨b,1,none⟩ v1=W2:=⟨_,rfl⟩
 rw[e2] at s2 n2 z2 ⊢
 have s3:Blk t (W2.setCell ⟨b,2,none⟩ v2) b #[v0,v1,v2,x3,x4,x5,x6,x7,x8]:=s2.set 2 v2
 have n3:=n2.trans (Only.set b 2 W2 v2)
 have z3:(W2.setCell ⟨b,2,none⟩ v2).heap.size=W.heap.size:=(by simp[World.setCell]:_=W2.heap.size).trans z2
 obtain⟨W3,e3⟩:∃ W3,W2.setCell ⟨b,2,none⟩ v2=W3:=⟨_,rfl⟩
 rw[e3] at s3 n3 z3 ⊢
 have s4:Blk t (W3.setCell ⟨b,3,none⟩ v3) b #[v0,v1,v2,v3,x4,x5,x6,x7,x8]:=s3.set 3 v3
 have n4:=n3.trans (Only.set b 3 W3 v3)
 have z4:(W3.setCell ⟨b,3,none⟩ v3).heap.size=W.heap.size:=(by simp[World.setCell]:_=W3.heap.size).trans z3
 obtain⟨W4,e4⟩:∃ W4,W3.setCell ⟨b,3,none⟩ v3=W4:=⟨_,rfl⟩
 rw[e4] at s4 n4 z4 ⊢
 have s5:Blk t (W4.setCell ⟨b,4,none⟩ v4) b #[v0,v1,v2,v3,v4,x5,x6,x7,x8]:=s4.set 4 v4
 have n5:=n4.trans (Only.set b 4 W4 v4)
 have z5:(W4.setCell ⟨b,4,none⟩ v4).heap.size=W.heap.size:=(by simp[World.setCell]:_=W4.heap.size).trans z4
 obtain⟨W5,e5⟩:∃ W5,W4.setCell ⟨b,4,none⟩ v4=W5:=⟨_,rfl⟩
 rw[e5] at s5 n5 z5 ⊢
 have s6:Blk t (W5.setCell ⟨b,5,none⟩ v5) b #[v0,v1,v2,v3,v4,v5,x6,x7,x8]:=s5.set 5 v5
 have n6:=n5.trans (Only.set b 5 W5 v5)
 have z6:(W5.setCell ⟨b,5,none⟩ v5).heap.size=W.heap.size:=(by simp[World.setCell]:_=W5.heap.size).trans z5
 obtain⟨W6,e6⟩:∃ W6,W5.setCell ⟨b,5,none⟩ v5=W6:=⟨_,rfl⟩
 rw[e6] at s6 n6 z6 ⊢
 have s7:Blk t (W6.setCell ⟨b,6,none⟩ v6) b #[v0,v1,v2,v3,v4,v5,v6,x7,x8]:=s6.set 6 v6
 have n7:=n6.trans (Only.set b 6 W6 v6)
 have z7:(W6.setCell ⟨b,6,none⟩ v6).heap.size=W.heap.size:=(by simp[World.setCell]:_=W6.heap.size).trans z6
 obtain⟨W7,e7⟩:∃ W7,W6.setCell ⟨b,6,none⟩ v6=W7:=⟨_,rfl⟩
 rw[e7] at s7 n7 z7 ⊢
 have s8:Blk t (W7.setCell ⟨b,7,none⟩ v7) b #[v0,v1,v2,v3,v4,v5,v6,v7,x8]:=s7.set 7 v7
 have n8:=n7.trans (Only.set b 7 W7 v7)
 have z8:(W7.setCell ⟨b,7,none⟩ v7).heap.size=W.heap.size:=(by simp[World.setCell]:_=W7.heap.size).trans z7
 obtain⟨W8,e8⟩:∃ W8,W7.setCell ⟨b,7,none⟩ v7=W8:=⟨_,rfl⟩
 rw[e8] at s8 n8 z8 ⊢
 have s9:Blk t (W8.setCell ⟨b,8,none⟩ v8) b #[v0,v1,v2,v3,v4,v5,v6,v7,v8]:=s8.set 8 v8
 have n9:=n8.trans (Only.set b 8 W8 v8)
 have z9:(W8.setCell ⟨b,8,none⟩ v8).heap.size=W.heap.size:=(by simp[World.setCell]:_=W8.heap.size).trans z8
 obtain⟨W9,e9⟩:∃ W9,W8.setCell ⟨b,8,none⟩ v8=W9:=⟨_,rfl⟩
 rw[e9] at s9 n9 z9 ⊢
 exact⟨_,rfl,s9,n9,z9⟩
theorem Blk.o9 {t0:TypeId}{w:World}{b:Nat}{cs:Array Value}(k:Blk t0 w b cs):w.frozen? ⟨b,0,none⟩=false∧w.frozen? ⟨b,1,none⟩=false∧w.frozen? ⟨b,2,none⟩=false∧w.frozen? ⟨b,3,none⟩=false∧w.frozen? ⟨b,4,none⟩=false∧w.frozen? ⟨b,5,none⟩=false∧w.frozen? ⟨b,6,none⟩=false∧w.frozen? ⟨b,7,none⟩=false∧w.frozen? ⟨b,8,none⟩=false:=⟨k.open_ 0,k.open_ 1,k.open_ 2,k.open_ 3,k.open_ 4,k.open_ 5,k.open_ 6,k.open_ 7,k.open_ 8⟩
theorem Blk.c8 {t0:TypeId}{w:World}{b:Nat}{x0 x1 x2 x3 x4 x5 x6 x7:Value}(k:Blk t0 w b #[x0,x1,x2,x3,x4,x5,x6,x7]):w.cell? ⟨b,0,none⟩=some x0∧w.cell? ⟨b,1,none⟩=some x1∧w.cell? ⟨b,2,none⟩=some x2∧w.cell? ⟨b,3,none⟩=some x3∧w.cell? ⟨b,4,none⟩=some x4∧w.cell? ⟨b,5,none⟩=some x5∧w.cell? ⟨b,6,none⟩=some x6∧w.cell? ⟨b,7,none⟩=some x7:=⟨k.cell 0 rfl,k.cell 1 rfl,k.cell 2 rfl,k.cell 3 rfl,k.cell 4 rfl,k.cell 5 rfl,k.cell 6 rfl,k.cell 7 rfl⟩
theorem run_alloc23 (w:World):(Instr.alloc 23 true (.tuple #[])).run Tryz.prog w=.ok (.pointer (some ⟨w.heap.size,0,none⟩)) (w.alloc (.cells #[.int .i64 0,.int .i64 0,.int .i64 0,.int .i64 0,.int .i64 0,.int .i64 0,.int .i64 0,.int .i64 0] 23)):=by go_simp
theorem run_alloc65 (w:World):(Instr.alloc 65 true (.tuple #[])).run Tryz.prog w=.ok (.pointer (some ⟨w.heap.size,0,none⟩)) (w.alloc (.cells #[.slice none 0 0,.slice none 0 0,.slice none 0 0,.slice none 0 0,.slice none 0 0,.slice none 0 0,.slice none 0 0,.slice none 0 0,.slice none 0 0] 65)):=by go_simp
theorem run_store23 {w:World}{b:Nat}(q:Blk 23 w b #[.int .i64 0,.int .i64 0,.int .i64 0,.int .i64 0,.int .i64 0,.int .i64 0,.int .i64 0,.int .i64 0])(d h l v u x t n:Int):∃ w',(Instr.storeAt 23 (.pointer (some ⟨b,0,none⟩)) (.agg #[.int .i64 d,.int .i64 h,.int .i64 l,.int .i64 v,.int .i64 u,.int .i64 x,.int .i64 t,.int .i64 n])).run Tryz.prog w=.ok () w'∧Blk 23 w' b #[.int .i64 d,.int .i64 h,.int .i64 l,.int .i64 v,.int .i64 u,.int .i64 x,.int .i64 t,.int .i64 n]∧Only b w w':=by
 obtain⟨c0,c1,c2,c3,c4,c5,c6,c7⟩:=q.c8
 obtain⟨o0,o1,o2,o3,o4,o5,o6,o7,-⟩:=q.o9
 obtain⟨W2,eW,q2,only,hz⟩:=set8 q (.int .i64 d) (.int .i64 h) (.int .i64 l) (.int .i64 v) (.int .i64 u) (.int .i64 x) (.int .i64 t) (.int .i64 n)
 exact⟨W2,by rw[←eW];go_simp,q2,only⟩
theorem run_store65 {w:World}{b:Nat}(q:Blk 65 w b #[.slice none 0 0,.slice none 0 0,.slice none 0 0,.slice none 0 0,.slice none 0 0,.slice none 0 0,.slice none 0 0,.slice none 0 0,.slice none 0 0])(y:Nat→SL):∃ w',(Instr.storeAt 65 (.pointer (some ⟨b,0,none⟩)) (.agg #[.slice (y 0).a (y 0).n (y 0).c,.slice (y 1).a (y 1).n (y 1).c,.slice (y 2).a (y 2).n (y 2).c,.slice (y 3).a (y 3).n (y 3).c,.slice (y 4).a (y 4).n (y 4).c,.slice (y 5).a (y 5).n (y 5).c,.slice (y 6).a (y 6).n (y 6).c,.slice (y 7).a (y 7).n (y 7).c,.slice (y 8).a (y 8).n (y 8).c])).run Tryz.prog w=.ok () w'∧Blk 65 w' b #[.slice (y 0).a (y 0).n (y 0).c,.slice (y 1).a (y 1).n (y 1).c,.slice (y 2).a (y 2).n (y 2).c,.slice (y 3).a (y 3).n (y 3).c,.slice (y 4).a (y 4).n (y 4).c,.slice (y 5).a (y 5).n (y 5).c,.slice (y 6).a (y 6).n (y 6).c,.slice (y 7).a (y 7).n (y 7).c,.slice (y 8).a (y 8).n (y 8).c]∧Only b w w':=by
 obtain⟨c0,c1,c2,c3,c4,c5,c6,c7,c8⟩:=q.c9
 obtain⟨o0,o1,o2,o3,o4,o5,o6,o7,o8⟩:=q.o9
 obtain⟨W2,eW,q2,only,hz⟩:=set9 q (.slice (y 0).a (y 0).n (y 0).c) (.slice (y 1).a (y 1).n (y 1).c) (.slice (y 2).a (y 2).n (y 2).c) (.slice (y 3).a (y 3).n (y 3).c) (.slice (y 4).a (y 4).n (y 4).c) (.slice (y 5).a (y 5).n (y 5).c) (.slice (y 6).a (y 6).n (y 6).c) (.slice (y 7).a (y 7).n (y 7).c) (.slice (y 8).a (y 8).n (y 8).c)
 exact⟨W2,by rw[←eW];go_simp,q2,only⟩
theorem run_load65 {w:World}{p:Addr}{y:Nat→SL}(h:∀ j,j<9→w.cell? (p.add j)=some (y j).v):(Instr.loadAt 65 (.pointer (some p))).run Tryz.prog w=.ok (.agg #[.slice (y 0).a (y 0).n (y 0).c,.slice (y 1).a (y 1).n (y 1).c,.slice (y 2).a (y 2).n (y 2).c,.slice (y 3).a (y 3).n (y 3).c,.slice (y 4).a (y 4).n (y 4).c,.slice (y 5).a (y 5).n (y 5).c,.slice (y 6).a (y 6).n (y 6).c,.slice (y 7).a (y 7).n (y 7).c,.slice (y 8).a (y 8).n (y 8).c]) w:=by
 have c0:w.cell? (p.add 0)=some (.slice (y 0).a (y 0).n (y 0).c):=h 0 (by omega)
 have c1:w.cell? (p.add 1)=some (.slice (y 1).a (y 1).n (y 1).c):=h 1 (by omega)
 have c2:w.cell? (p.add 2)=some (.slice (y 2).a (y 2).n (y 2).c):=h 2 (by omega)
 have c3:w.cell? (p.add 3)=some (.slice (y 3).a (y 3).n (y 3).c):=h 3 (by omega)
 have c4:w.cell? (p.add 4)=some (.slice (y 4).a (y 4).n (y 4).c):=h 4 (by omega)
 have c5:w.cell? (p.add 5)=some (.slice (y 5).a (y 5).n (y 5).c):=h 5 (by omega)
 have c6:w.cell? (p.add 6)=some (.slice (y 6).a (y 6).n (y 6).c):=h 6 (by omega)
 have c7:w.cell? (p.add 7)=some (.slice (y 7).a (y 7).n (y 7).c):=h 7 (by omega)
 have c8:w.cell? (p.add 8)=some (.slice (y 8).a (y 8).n (y 8).c):=h 8 (by omega)
 simp only[Addr.add_zero',Addr.add_succ'] at c0 c1 c2 c3 c4 c5 c6 c7 c8
 go_simp
theorem run_field27 (b f:Nat)(o:Nat)(hf:(f=0∧o=0)∨(f=1∧o=8)∨(f=2∧o=9)∨(f=3∧o=10)∨(f=4∧o=11))(w:World):(Instr.fieldAt 27 (.pointer (some ⟨b,0,none⟩)) f).run Tryz.prog w=.ok (.pointer (some ⟨b,o,none⟩)) w:=by
 rcases hf with⟨rfl,rfl⟩|⟨rfl,rfl⟩|⟨rfl,rfl⟩|⟨rfl,rfl⟩|⟨rfl,rfl⟩<;>go_simp
theorem run_load25 {w:World}{p:Addr}{a:Option Addr}{n c:Nat}(h:w.cell? p=some (.slice a n c)):(Instr.loadAt 25 (.pointer (some p))).run Tryz.prog w=.ok (.slice a n c) w:=by go_simp
theorem run_index25 {x:Addr}{n c k:Nat}(h:k<n)(w:World):(Instr.indexAt 25 (.slice (some x) n c) (.int .i64 k)).run Tryz.prog w=.ok (.pointer (some (x.add (k*9)))) w:=by
 have h':(k:Int)<(n:Int):=by omega
 go_simp
theorem run_cfg12 {w:World}{b:Nat}{d h l v u x t n:Int}{s0 s1 s2 s3:Value}(q:Blk 27 w b #[.int .i64 d,.int .i64 h,.int .i64 l,.int .i64 v,.int .i64 u,.int .i64 x,.int .i64 t,.int .i64 n,s0,s1,s2,s3]):(Instr.loadAt 23 (.pointer (some ⟨b,0,none⟩))).run Tryz.prog w=.ok (.agg #[.int .i64 d,.int .i64 h,.int .i64 l,.int .i64 v,.int .i64 u,.int .i64 x,.int .i64 t,.int .i64 n]) w:=by
 obtain⟨c0,c1,c2,c3,c4,c5,c6,c7,c8,c9,c10,c11⟩:=q.c12
 go_simp
theorem Blk.apart {t t':TypeId}{w:World}{b b':Nat}{cs cs':Array Value}(q:Blk t w b cs)(q':Blk t' w b' cs')(h:t≠t'):b≠b':=fun e=>by
 subst e
 have:=Option.some.inj ((show w.heap[b]? = _ from q).symm.trans (show w.heap[b]? = _ from q'))
 simp only[Obj.cells.injEq] at this
 exact h this.2.1
def widthZ (d h l v u x t n:Int):Int:=if okB d h l v u x t n then 2*d*l else 0
theorem width_bounds {d h l v u x t n:Int}(ok:okB d h l v u x t n=true):0≤2*d∧2*d≤16∧0≤2*d*l∧2*d*l≤32:=by
 have r:=right_of ok
 have d0:=r.d0;have d1:=r.d1;have l0:=r.l0;have l1:=r.l1
 have p:=mul_bounds (show 0≤2*d by omega) (show 2*d≤16 by omega) (show 0≤l by omega) l1
 exact⟨by omega,by omega,p.1,by omega⟩
theorem md_width (d h l v u x t n:Int)(w:World):Calls Tryz.prog 15 #[.agg #[.int .i64 d,.int .i64 h,.int .i64 l,.int .i64 v,.int .i64 u,.int .i64 x,.int .i64 t,.int .i64 n]] w fun e w'=>e=.returned (.int .i64 (widthZ d h l v u x t n))∧Below w.heap.size w w':=by
 have kc:=config_call d h l v u x t n
 have hnot:∀ (x:Bool) (w:World),(Op.unary .not (.bool x)).run Tryz.prog w=.ok (.bool (!x)) w:=fun _ _=>rfl
 have hb:=bNw (Below.refl w.heap.size w) (.cells #[.int .i64 d,.int .i64 h,.int .i64 l,.int .i64 v,.int .i64 u,.int .i64 x,.int .i64 t,.int .i64 n] 23)
 have q:=Blk.new 23 w #[.int .i64 d,.int .i64 h,.int .i64 l,.int .i64 v,.int .i64 u,.int .i64 x,.int .i64 t,.int .i64 n]
 unfold widthZ
 cases ok:okB d h l v u x t n with
 | false =>
  simp only[ok] at kc
  go_enter Tryz.func15,Tryz.ntmps15
  go_wp2_with (go_at_call 35;refine (kc _).mono ?_;rintro e W1 ⟨rfl,h1⟩;replace hb:=bTn hb h1)
  go_ret
  exact⟨rfl,hb⟩
 | true =>
  simp only[ok] at kc
  have wb:=width_bounds ok
  obtain⟨p0,p1,p2,p3⟩:=wb
  obtain⟨p,ep⟩:∃ p,2*d*l=p:=⟨_,rfl⟩
  rw[ep] at p2 p3
  have HQ:=hdn q
  clear q
  go_enter Tryz.func15,Tryz.ntmps15
  go_wp2_with (go_at_call 35;refine (kc _).mono ?_;rintro e W1 ⟨rfl,h1⟩;replace hb:=bTn hb h1;have q1:=HQ.out.kept h1;obtain⟨z0,z1,z2,z3,z4,z5,z6,z7⟩:=q1.c8;clear h1 q1)
  go_ret
  exact⟨rfl,hb⟩
theorem rd_width (d h l v u x t n:Int)(w:World):Calls Tryz.prog 16 #[.agg #[.int .i64 d,.int .i64 h,.int .i64 l,.int .i64 v,.int .i64 u,.int .i64 x,.int .i64 t,.int .i64 n]] w fun e w'=>e=.returned (.int .i64 (widthZ d h l v u x t n))∧Below w.heap.size w w':=by
 have kc:=refConfig_call d h l v u x t n
 have hnot:∀ (x:Bool) (w:World),(Op.unary .not (.bool x)).run Tryz.prog w=.ok (.bool (!x)) w:=fun _ _=>rfl
 have hb:=bNw (Below.refl w.heap.size w) (.cells #[.int .i64 d,.int .i64 h,.int .i64 l,.int .i64 v,.int .i64 u,.int .i64 x,.int .i64 t,.int .i64 n] 23)
 have q:=Blk.new 23 w #[.int .i64 d,.int .i64 h,.int .i64 l,.int .i64 v,.int .i64 u,.int .i64 x,.int .i64 t,.int .i64 n]
 unfold widthZ
 cases ok:okB d h l v u x t n with
 | false =>
  simp only[ok] at kc
  go_enter Tryz.func16,Tryz.ntmps16
  go_wp2_with (go_at_call 36;refine (kc _).mono ?_;rintro e W1 ⟨rfl,h1⟩;replace hb:=bTn hb h1)
  go_ret
  exact⟨rfl,hb⟩
 | true =>
  simp only[ok] at kc
  have wb:=width_bounds ok
  obtain⟨p0,p1,p2,p3⟩:=wb
  obtain⟨p,ep⟩:∃ p,2*d*l=p:=⟨_,rfl⟩
  rw[ep] at p2 p3
  have HQ:=hdn q
  clear q
  go_enter Tryz.func16,Tryz.ntmps16
  go_wp2_with (go_at_call 36;refine (kc _).mono ?_;rintro e W1 ⟨rfl,h1⟩;replace hb:=bTn hb h1;have q1:=HQ.out.kept h1;obtain⟨z0,z1,z2,z3,z4,z5,z6,z7⟩:=q1.c8;clear h1 q1)
  go_ret
  exact⟨rfl,hb⟩
theorem grafted_no (R S:Int)(La:SL)(hR:R=0)(w:World):Calls Tryz.prog 53 #[.agg #[.int .i64 R,.int .i64 S,.slice La.a La.n La.c]] w fun e w'=>e=.returned (.bool false)∧Below w.heap.size w w':=by
 have hb:=bNw (Below.refl w.heap.size w) (.cells #[.int .i64 R,.int .i64 S,.slice La.a La.n La.c] 30)
 subst hR
 go_enter Tryz.func53,Tryz.ntmps53
 go_wp2
 go_ret
 exact⟨rfl,hb⟩
theorem grafted_yes (R S:Int)(La:SL)(hR:R≠0)(w:World):Calls Tryz.prog 53 #[.agg #[.int .i64 R,.int .i64 S,.slice La.a La.n La.c]] w fun e w'=>e=.returned (.bool true)∧Below w.heap.size w w':=by
 have hb:=bNw (Below.refl w.heap.size w) (.cells #[.int .i64 R,.int .i64 S,.slice La.a La.n La.c] 30)
 have z:(R==0)=false:=by simp[hR]
 have z':(R != 0)=true:=by simp[hR]
 go_enter Tryz.func53,Tryz.ntmps53
 go_wp2
 go_ret
 exact⟨rfl,hb⟩
theorem mdfits_few (a:Option Addr)(n c:Nat)(cnt wd:Int)(hn:¬(n:Int)=cnt)(w:World) :
  Calls Tryz.prog 57 #[.slice a n c,.int .i64 cnt,.int .i64 wd] w fun e w'=>e=.returned (.bool false)∧w'=w:=by
 have z:((n:Int) != cnt)=true:=by simp[hn]
 have z':((n:Int)==cnt)=false:=by simp[hn]
 go_enter Tryz.func57,Tryz.ntmps57
 go_wp2
 go_ret
 exact⟨rfl,rfl⟩
theorem mdfits_loop (a:Option Addr)(n c:Nat)(A:Nat→Option Addr)(C:Nat→Nat)(P:Nat→List Int)(cnt wd:Int)(w:World)(h:Grid w a n A C P)(hn:(n:Int)=cnt)(B:Bool)(yes:(∀ r,r<n→((P r).length:Int)=wd)→B=true)(no:∀ r,r<n→¬((P r).length:Int)=wd→B=false) :
  Calls Tryz.prog 57 #[.slice a n c,.int .i64 cnt,.int .i64 wd] w fun e w'=>e=.returned (.bool B)∧w'=w:=by
 subst hn
 have hm:=h.max
 go_enter Tryz.func57,Tryz.ntmps57
 go_wp2
 go_loopw [15] (fun i wr=>∃ k:Nat,k≤n∧i=.int .i64 k∧wr=w∧∀ r,r<k→((P r).length:Int)=wd) (fun i _=>n-(intOf i).toNat)
 case atStart=>exact⟨0,Nat.zero_le _,rfl,rfl,fun r h=>by omega⟩
 case round =>
  obtain⟨k,hk,rfl,hw,hs⟩:=hrel
  subst hw
  by_cases hlt:k<n
  ·obtain⟨x,rfl⟩:=h.some_ (by omega)
   have cx:=h.cell x rfl k hlt
   have Hs:Hid (∀ r,r<k→((P r).length:Int)=wd):=hs
   have nk:=no k hlt
   have hl:=(h.row k hlt).max
   clear hs h no
   obtain⟨g,eg⟩:∃ g,(P k).length=g:=⟨_,rfl⟩
   rw[eg] at cx nk hl
   have Eg:Hid ((P k).length=g):=eg
   clear eg
   by_cases e1:(g:Int)=wd
   ·subst e1
    clear nk
    go_wp2
    go_roundw
    case rel =>
     refine⟨k+1,by omega,by go_num,trivial,fun r hr=>?_⟩
     by_cases e:r=k
     ·subst e;rw[Eg.out]
     ·exact Hs.out r (by omega)
    case measure=>simp[intOf];omega
   ·have z1:((g:Int)==wd)=false:=by simp[e1]
    have z2:((g:Int) != wd)=true:=by simp[e1]
    have hB:=nk e1
    clear nk
    go_wp2
    go_ret
    exact⟨by rw[hB];rfl,rfl⟩
  ·have e:k=n:=by omega
   subst e
   have hB:=yes hs
   clear hs no yes
   go_wp2
   go_ret
   exact⟨by rw[hB];rfl,rfl⟩
end Go.Proofs.YthliomlmhfjhnaaGreat

/- Texts put together. -/
import Derived.Test.YthliomlmhfjhnaaGreatZs8
import Derived.Test.YthliomlmhfjhnaaGreatZs7
namespace Go.Proofs.YthliomlmhfjhnaaGreat
set_option maxRecDepth 20000
set_option maxHeartbeats 16000000
open Go.ChangeShapes Go.WideShapes Go.ChangeAt Go.RowKit
set_option linter.unusedVariables false
set_option linter.unusedSimpArgs false
theorem mulZ_min (x:Int):mulZ (min 0 x) 94548 = -tZ x:=by
 have e:cZ (min 0 x)=cZ (min (cZ x) 0):=by
  unfold cZ
  repeat' split
  all_goals omega
 unfold tZ mulZ
 rw[e];omega
theorem refExp_neg (x:Int)(wx:(Lit.int .i64 x).wf=true)(h:x<0)(w:World) :
  Calls Tryz.prog 142 #[.int .i64 x] w fun e w'=>e=.returned (.int .i64 (expZ x))∧Below w.heap.size w w':=by
 have tb:=tZ_bounds x
 have m:=mulZ_min x
 unfold expZ
 obtain⟨t,et⟩:∃ t,tZ x=t:=⟨_,rfl⟩
 rw[et] at tb m ⊢
 clear et
 obtain⟨t0,t1⟩:=tb
 have f0:0≤t%65536:=by omega
 have f1:t%65536<65536:=by omega
 have i0:0≤t%65536/4096:=by omega
 have i1:t%65536/4096<17:=by omega
 have i2:t%65536/4096+1<17:=by omega
 have s:=powZ_steps (t%65536/4096) i0 (by omega)
 have mm:=prod_bounds (powZ (t%65536/4096)-powZ (t%65536/4096+1)) (t%65536%4096) s.1 s.2.1 (by omega) (by omega)
 have fb:=betweenZ_bounds (t%65536) (by omega) (by omega)
 unfold betweenZ at fb ⊢
 obtain⟨p,ep⟩:∃ p,powZ (t%65536/4096)=p:=⟨_,rfl⟩
 obtain⟨q,eq⟩:∃ q,powZ (t%65536/4096+1)=q:=⟨_,rfl⟩
 have ee:t%65536%4096=t%4096:=by omega
 rw[ep,eq] at s mm fb ⊢
 rw[ee] at mm fb ⊢
 clear ee
 have EP:Hid (powZ (t%65536/4096)=p):=ep
 have EQ:Hid (powZ (t%65536/4096+1)=q):=eq
 clear ep eq
 obtain⟨s1,s2,s3,s4⟩:=s
 obtain⟨m1,m2⟩:=mm
 obtain⟨fb1,fb2⟩:=fb
 have e:min 0 x=x:=by omega
 rw[e] at m;clear e
 by_cases k:16<t/65536
 ·rw[if_pos k]
  go_enter Tryz.func142,Tryz.ntmps142
  go_wp2_with (go_at_call 76;refine (refMul_call _ _ (by first|assumption|decide) (by decide) _).mono ?_;rintro e w' ⟨rfl,rfl⟩)
  generalize hW:w.alloc (Obj.cells _ _)=W1
  have hW':w.alloc (Obj.cells (tabP.map (Value.int .i64)).toArray 2)=W1:=hW
  have hg:Below w.heap.size w W1:=by rw[←hW];exact bNw (Below.refl _ w) _
  have c1:W1.cell? ⟨w.heap.size,(t%65536/4096).toNat,none⟩=some (.int .i64 p):=by
   rw[←hW',World.cell?_alloc_new,←EP.out];exact tab_cell _ _ (by show _<17;omega)
  have c2:W1.cell? ⟨w.heap.size,(t%65536/4096+1).toNat,none⟩=some (.int .i64 q):=by
   rw[←hW',World.cell?_alloc_new,←EQ.out];exact tab_cell _ _ (by show _<17;omega)
  clear hW hW'
  go_quiet (fail)
  go_wp2
  go_ret
  exact⟨rfl,bDr hg ⟨_,rfl⟩⟩
 ·rw[if_neg k]
  go_enter Tryz.func142,Tryz.ntmps142
  go_wp2_with (go_at_call 76;refine (refMul_call _ _ (by first|assumption|decide) (by decide) _).mono ?_;rintro e w' ⟨rfl,rfl⟩)
  generalize hW:w.alloc (Obj.cells _ _)=W1
  have hW':w.alloc (Obj.cells (tabP.map (Value.int .i64)).toArray 2)=W1:=hW
  have hg:Below w.heap.size w W1:=by rw[←hW];exact bNw (Below.refl _ w) _
  have c1:W1.cell? ⟨w.heap.size,(t%65536/4096).toNat,none⟩=some (.int .i64 p):=by
   rw[←hW',World.cell?_alloc_new,←EP.out];exact tab_cell _ _ (by show _<17;omega)
  have c2:W1.cell? ⟨w.heap.size,(t%65536/4096+1).toNat,none⟩=some (.int .i64 q):=by
   rw[←hW',World.cell?_alloc_new,←EQ.out];exact tab_cell _ _ (by show _<17;omega)
  clear hW hW'
  go_quiet (fail)
  go_wp2
  go_ret
  exact⟨rfl,bDr hg ⟨_,rfl⟩⟩
theorem refExp_zero (x:Int)(wx:(Lit.int .i64 x).wf=true)(h:x=0)(w:World) :
  Calls Tryz.prog 142 #[.int .i64 x] w fun e w'=>e=.returned (.int .i64 (expZ x))∧Below w.heap.size w w':=by
 have tb:=tZ_bounds x
 have m:=mulZ_min x
 unfold expZ
 obtain⟨t,et⟩:∃ t,tZ x=t:=⟨_,rfl⟩
 rw[et] at tb m ⊢
 clear et
 obtain⟨t0,t1⟩:=tb
 have f0:0≤t%65536:=by omega
 have f1:t%65536<65536:=by omega
 have i0:0≤t%65536/4096:=by omega
 have i1:t%65536/4096<17:=by omega
 have i2:t%65536/4096+1<17:=by omega
 have s:=powZ_steps (t%65536/4096) i0 (by omega)
 have mm:=prod_bounds (powZ (t%65536/4096)-powZ (t%65536/4096+1)) (t%65536%4096) s.1 s.2.1 (by omega) (by omega)
 have fb:=betweenZ_bounds (t%65536) (by omega) (by omega)
 unfold betweenZ at fb ⊢
 obtain⟨p,ep⟩:∃ p,powZ (t%65536/4096)=p:=⟨_,rfl⟩
 obtain⟨q,eq⟩:∃ q,powZ (t%65536/4096+1)=q:=⟨_,rfl⟩
 have ee:t%65536%4096=t%4096:=by omega
 rw[ep,eq] at s mm fb ⊢
 rw[ee] at mm fb ⊢
 clear ee
 have EP:Hid (powZ (t%65536/4096)=p):=ep
 have EQ:Hid (powZ (t%65536/4096+1)=q):=eq
 clear ep eq
 obtain⟨s1,s2,s3,s4⟩:=s
 obtain⟨m1,m2⟩:=mm
 obtain⟨fb1,fb2⟩:=fb
 have e:min 0 x=0:=by omega
 rw[e] at m;clear e;subst h
 by_cases k:16<t/65536
 ·rw[if_pos k]
  go_enter Tryz.func142,Tryz.ntmps142
  go_wp2_with (go_at_call 76;refine (refMul_call _ _ (by first|assumption|decide) (by decide) _).mono ?_;rintro e w' ⟨rfl,rfl⟩)
  generalize hW:w.alloc (Obj.cells _ _)=W1
  have hW':w.alloc (Obj.cells (tabP.map (Value.int .i64)).toArray 2)=W1:=hW
  have hg:Below w.heap.size w W1:=by rw[←hW];exact bNw (Below.refl _ w) _
  have c1:W1.cell? ⟨w.heap.size,(t%65536/4096).toNat,none⟩=some (.int .i64 p):=by
   rw[←hW',World.cell?_alloc_new,←EP.out];exact tab_cell _ _ (by show _<17;omega)
  have c2:W1.cell? ⟨w.heap.size,(t%65536/4096+1).toNat,none⟩=some (.int .i64 q):=by
   rw[←hW',World.cell?_alloc_new,←EQ.out];exact tab_cell _ _ (by show _<17;omega)
  clear hW hW'
  go_quiet (fail)
  go_wp2
  go_ret
  exact⟨rfl,bDr hg ⟨_,rfl⟩⟩
 ·rw[if_neg k]
  go_enter Tryz.func142,Tryz.ntmps142
  go_wp2_with (go_at_call 76;refine (refMul_call _ _ (by first|assumption|decide) (by decide) _).mono ?_;rintro e w' ⟨rfl,rfl⟩)
  generalize hW:w.alloc (Obj.cells _ _)=W1
  have hW':w.alloc (Obj.cells (tabP.map (Value.int .i64)).toArray 2)=W1:=hW
  have hg:Below w.heap.size w W1:=by rw[←hW];exact bNw (Below.refl _ w) _
  have c1:W1.cell? ⟨w.heap.size,(t%65536/4096).toNat,none⟩=some (.int .i64 p):=by
   rw[←hW',World.cell?_alloc_new,←EP.out];exact tab_cell _ _ (by show _<17;omega)
  have c2:W1.cell? ⟨w.heap.size,(t%65536/4096+1).toNat,none⟩=some (.int .i64 q):=by
   rw[←hW',World.cell?_alloc_new,←EQ.out];exact tab_cell _ _ (by show _<17;omega)
  clear hW hW'
  go_quiet (fail)
  go_wp2
  go_ret
  exact⟨rfl,bDr hg ⟨_,rfl⟩⟩
theorem refExp_pos (x:Int)(wx:(Lit.int .i64 x).wf=true)(h:0<x)(w:World) :
  Calls Tryz.prog 142 #[.int .i64 x] w fun e w'=>e=.returned (.int .i64 (expZ x))∧Below w.heap.size w w':=by
 have tb:=tZ_bounds x
 have m:=mulZ_min x
 unfold expZ
 obtain⟨t,et⟩:∃ t,tZ x=t:=⟨_,rfl⟩
 rw[et] at tb m ⊢
 clear et
 obtain⟨t0,t1⟩:=tb
 have f0:0≤t%65536:=by omega
 have f1:t%65536<65536:=by omega
 have i0:0≤t%65536/4096:=by omega
 have i1:t%65536/4096<17:=by omega
 have i2:t%65536/4096+1<17:=by omega
 have s:=powZ_steps (t%65536/4096) i0 (by omega)
 have mm:=prod_bounds (powZ (t%65536/4096)-powZ (t%65536/4096+1)) (t%65536%4096) s.1 s.2.1 (by omega) (by omega)
 have fb:=betweenZ_bounds (t%65536) (by omega) (by omega)
 unfold betweenZ at fb ⊢
 obtain⟨p,ep⟩:∃ p,powZ (t%65536/4096)=p:=⟨_,rfl⟩
 obtain⟨q,eq⟩:∃ q,powZ (t%65536/4096+1)=q:=⟨_,rfl⟩
 have ee:t%65536%4096=t%4096:=by omega
 rw[ep,eq] at s mm fb ⊢
 rw[ee] at mm fb ⊢
 clear ee
 have EP:Hid (powZ (t%65536/4096)=p):=ep
 have EQ:Hid (powZ (t%65536/4096+1)=q):=eq
 clear ep eq
 obtain⟨s1,s2,s3,s4⟩:=s
 obtain⟨m1,m2⟩:=mm
 obtain⟨fb1,fb2⟩:=fb
 have e:min 0 x=0:=by omega
 rw[e] at m;clear e
 by_cases k:16<t/65536
 ·rw[if_pos k]
  go_enter Tryz.func142,Tryz.ntmps142
  go_wp2_with (go_at_call 76;refine (refMul_call _ _ (by first|assumption|decide) (by decide) _).mono ?_;rintro e w' ⟨rfl,rfl⟩)
  generalize hW:w.alloc (Obj.cells _ _)=W1
  have hW':w.alloc (Obj.cells (tabP.map (Value.int .i64)).toArray 2)=W1:=hW
  have hg:Below w.heap.size w W1:=by rw[←hW];exact bNw (Below.refl _ w) _
  have c1:W1.cell? ⟨w.heap.size,(t%65536/4096).toNat,none⟩=some (.int .i64 p):=by
   rw[←hW',World.cell?_alloc_new,←EP.out];exact tab_cell _ _ (by show _<17;omega)
  have c2:W1.cell? ⟨w.heap.size,(t%65536/4096+1).toNat,none⟩=some (.int .i64 q):=by
   rw[←hW',World.cell?_alloc_new,←EQ.out];exact tab_cell _ _ (by show _<17;omega)
  clear hW hW'
  go_quiet (fail)
  go_wp2
  go_ret
  exact⟨rfl,bDr hg ⟨_,rfl⟩⟩
 ·rw[if_neg k]
  go_enter Tryz.func142,Tryz.ntmps142
  go_wp2_with (go_at_call 76;refine (refMul_call _ _ (by first|assumption|decide) (by decide) _).mono ?_;rintro e w' ⟨rfl,rfl⟩)
  generalize hW:w.alloc (Obj.cells _ _)=W1
  have hW':w.alloc (Obj.cells (tabP.map (Value.int .i64)).toArray 2)=W1:=hW
  have hg:Below w.heap.size w W1:=by rw[←hW];exact bNw (Below.refl _ w) _
  have c1:W1.cell? ⟨w.heap.size,(t%65536/4096).toNat,none⟩=some (.int .i64 p):=by
   rw[←hW',World.cell?_alloc_new,←EP.out];exact tab_cell _ _ (by show _<17;omega)
  have c2:W1.cell? ⟨w.heap.size,(t%65536/4096+1).toNat,none⟩=some (.int .i64 q):=by
   rw[←hW',World.cell?_alloc_new,←EQ.out];exact tab_cell _ _ (by show _<17;omega)
  clear hW hW'
  go_quiet (fail)
  go_wp2
  go_ret
  exact⟨rfl,bDr hg ⟨_,rfl⟩⟩
theorem refExp_call (x:Int)(wx:(Lit.int .i64 x).wf=true)(w:World) :
  Calls Tryz.prog 142 #[.int .i64 x] w fun e w'=>e=.returned (.int .i64 (expZ x))∧Below w.heap.size w w':=by
 rcases Int.lt_trichotomy x 0 with h|h|h
 ·exact refExp_neg x wx h w
 ·exact refExp_zero x wx h w
 ·exact refExp_pos x wx h w
theorem clampZ_of (x:Int)(h0:-2147483648≤x)(h1:x≤2147483647):cZ x=x:=by
 unfold cZ
 rw[if_neg (by omega),if_neg (by omega)]
theorem up_clamped (c:Int)(h0:-2147483648≤c)(h1:c<0):upZ (cZ (-c))=upZ (-c):=by
 by_cases k:c = -2147483648
 ·subst k;decide +kernel
 ·rw[clampZ_of (-c) (by omega) (by omega)]
theorem upperSig_call (x:Int)(h0:0≤x)(h1:x≤2147483648)(w:World) :
  Calls Tryz.prog 159 #[.int .i64 x] w fun e w'=>e=.returned (.int .i64 (upZ x))∧Below w.heap.size w w':=by
 have eb:=expZ_bounds (-x)
 unfold upZ
 obtain⟨v,ev⟩:∃ v,expZ (-x)=v:=⟨_,rfl⟩
 rw[ev] at eb ⊢
 obtain⟨e0,e1⟩:=eb
 have wv:(Lit.int .i64 (65536+v)).wf=true:=wf_i64_of (by omega) (by omega)
 go_enter Tryz.func159,Tryz.ntmps159
 go_wp2_with (first|(go_at_call 134;refine (exp_call _ _).mono ?_;rintro e w' ⟨rfl,hg⟩)|(go_at_call 135;refine (div_call _ _ (by first|assumption|decide) (by first|assumption|decide) _).mono ?_;rintro e w' ⟨rfl,rfl⟩))
 all_goals go_ret
 all_goals exact⟨rfl,by assumption⟩
theorem sig_call (x:Int)(w:World) :
  Calls Tryz.prog 155 #[.int .i64 x] w fun e w'=>e=.returned (.int .i64 (sigZ x))∧Below w.heap.size w w':=by
 have cb:=cZb x
 have b1:=upZ_bounds (-cZ x)
 unfold sigZ
 obtain⟨c,ec⟩:∃ c,cZ x=c:=⟨_,rfl⟩
 rw[ec] at cb b1 ⊢
 obtain⟨c0,c1⟩:=cb
 obtain⟨b0,b1⟩:=b1
 by_cases k:c<0
 ·rw[if_pos k]
  go_enter Tryz.func155,Tryz.ntmps155
  go_wp2_with (first|(go_at_call 114;refine (cCa _ _).mono ?_;rintro e w' ⟨rfl,rfl⟩)|(go_at_call 159;refine (upperSig_call _ (by omega) (by omega) _).mono ?_;rintro e w' ⟨rfl,hg⟩))
  all_goals go_ret
  all_goals exact⟨rfl,by assumption⟩
 ·rw[if_neg k]
  go_enter Tryz.func155,Tryz.ntmps155
  go_wp2_with (first|(go_at_call 114;refine (cCa _ _).mono ?_;rintro e w' ⟨rfl,rfl⟩)|(go_at_call 159;refine (upperSig_call _ (by omega) (by omega) _).mono ?_;rintro e w' ⟨rfl,hg⟩))
  all_goals go_ret
  all_goals exact⟨rfl,by assumption⟩
theorem silu_call (x:Int)(hx:(Lit.int .i64 x).wf=true)(w:World) :
  Calls Tryz.prog 152 #[.int .i64 x] w fun e w'=>e=.returned (.int .i64 (siluZ x))∧Below w.heap.size w w':=by
 have b:=sigZ_bounds x
 have wv:(Lit.int .i64 (sigZ x)).wf=true:=wf_i64_of (by omega) (by omega)
 unfold siluZ
 go_enter Tryz.func152,Tryz.ntmps152
 go_wp2_with (first|(go_at_call 155;refine (sig_call _ _).mono ?_;rintro e w' ⟨rfl,hg⟩)|(go_at_call 104;refine (mul_call _ _ (by first|assumption|decide) (by first|assumption|decide) _).mono ?_;rintro e w' ⟨rfl,rfl⟩))
 all_goals go_ret
 all_goals exact⟨rfl,by assumption⟩
theorem refSig_up (x:Int)(h0:0≤cZ x)(w:World) :
  Calls Tryz.prog 144 #[.int .i64 x] w fun e w'=>e=.returned (.int .i64 (upZ (cZ x)))∧Below w.heap.size w w':=by
 have cb:=cZb x
 have eb:=expZ_bounds (-cZ x)
 unfold upZ
 obtain⟨c,ec⟩:∃ c,cZ x=c:=⟨_,rfl⟩
 rw[ec] at cb eb h0 ⊢
 obtain⟨c0,c1⟩:=cb
 obtain⟨v,ev⟩:∃ v,expZ (-c)=v:=⟨_,rfl⟩
 rw[ev] at eb ⊢
 obtain⟨e0,e1⟩:=eb
 have wv:(Lit.int .i64 (65536+v)).wf=true:=wf_i64_of (by omega) (by omega)
 have wx:(Lit.int .i64 (-c)).wf=true:=wf_i64_of (by omega) (by omega)
 go_enter Tryz.func144,Tryz.ntmps144
 go_wp2_with (first|(go_at_call 73;refine (rCc _ _).mono ?_;rintro e w' ⟨rfl,rfl⟩)|(go_at_call 142;refine (refExp_call _ (by first|assumption|decide) _).mono ?_;rintro e w' ⟨rfl,hg⟩)|(go_at_call 143;refine (refDiv_call _ _ (by first|assumption|decide) (by first|assumption|decide) _).mono ?_;rintro e w' ⟨rfl,rfl⟩))
 all_goals go_ret
 all_goals exact⟨rfl,by assumption⟩
theorem refSig_call (x:Int)(w:World) :
  Calls Tryz.prog 144 #[.int .i64 x] w fun e w'=>e=.returned (.int .i64 (sigZ x))∧Below w.heap.size w w':=by
 have cb:=cZb x
 by_cases k:cZ x<0
 ·have e:sigZ x=65536-upZ (cZ (-cZ x)):=by
   unfold sigZ;rw[if_pos k,up_clamped _ cb.1 k]
  rw[e];clear e
  have ub:=upZ_bounds (cZ (-cZ x))
  have nn:0≤cZ (-cZ x):=by
   have:0≤-cZ x:=by omega
   generalize -cZ x=y at *
   unfold cZ
   repeat' split
   all_goals omega
  obtain⟨c,ec⟩:∃ c,cZ x=c:=⟨_,rfl⟩
  rw[ec] at cb k ub nn ⊢
  obtain⟨c0,c1⟩:=cb
  obtain⟨u0,u1⟩:=ub
  go_enter Tryz.func144,Tryz.ntmps144
  go_wp2_with (first|(go_at_call 73;refine (rCc _ _).mono ?_;rintro e w' ⟨rfl,rfl⟩)|(go_at_call 144;refine (refSig_up _ nn _).mono ?_;rintro e w' ⟨rfl,hg⟩))
  all_goals go_ret
  all_goals exact⟨rfl,by assumption⟩
 ·have e:sigZ x=upZ (cZ x):=by
   unfold sigZ;rw[if_neg k]
  rw[e]
  exact refSig_up x (by omega) w
theorem refSilu_call (x:Int)(hx:(Lit.int .i64 x).wf=true)(w:World) :
  Calls Tryz.prog 129 #[.int .i64 x] w fun e w'=>e=.returned (.int .i64 (siluZ x))∧Below w.heap.size w w':=by
 have b:=sigZ_bounds x
 have wv:(Lit.int .i64 (sigZ x)).wf=true:=wf_i64_of (by omega) (by omega)
 unfold siluZ
 go_enter Tryz.func129,Tryz.ntmps129
 go_wp2_with (first|(go_at_call 144;refine (refSig_call _ _).mono ?_;rintro e w' ⟨rfl,hg⟩)|(go_at_call 76;refine (refMul_call _ _ (by first|assumption|decide) (by first|assumption|decide) _).mono ?_;rintro e w' ⟨rfl,rfl⟩))
 all_goals go_ret
 all_goals exact⟨rfl,by assumption⟩
theorem topZ_same (b:Int)(z:List Int)(hb:b≤-2147483648)(n:Nat)(hn:0<n):topZ b z n=topZ (-2147483648) z n:=by
 induction n with
 | zero=>omega
 | succ n ih =>
  show max (topZ b z n) (cZ (z.getD n 0))=max (topZ (-2147483648) z n) (cZ (z.getD n 0))
  have c:=cZb (z.getD n 0)
  by_cases h:0<n
  ·rw[ih h]
  ·obtain rfl:n=0:=by omega
   show max b _=max (-2147483648) _
   omega
theorem soft_same (z:List Int)(n:Nat)(b:Int)(hb:b≤-2147483648):(List.range n).map (shareF z (topZ b z n) (sumE z (topZ b z n) n))=softZ z n:=by
 by_cases h:0<n
 ·unfold softZ;rw[topZ_same b z hb n h]
 ·obtain rfl:n=0:=by omega
  rfl
theorem refSoft_call (a0 : Option Addr) (n c0 : Nat) (zs : List Int) (w : World) (h0 : Reads .i64 w a0 n zs) (hb : n * 8 ≤ 140737488355328) :
    Calls Tryz.prog 128 #[.slice a0 n c0] w fun e w' => (∃ a c, e = .returned (.slice a n c) ∧ Reads .i64 w' a n (softZ zs n)) ∧ Below w.heap.size w w' := by
  obtain ⟨i0, hi, hz0, hz1, hz2⟩ := info_parts info2
  have hm := h0.max
  go_enter Tryz.func128, Tryz.ntmps128
  go_wp2
  go_loopw [3, 4] (fun s i wr => ∃ k : Nat, k ≤ n ∧ i = .int .i64 k ∧ s = .int .i64 (topZ (-4611686018427387904) zs k) ∧ wr = w) (fun _ i _ => n - (intOf i).toNat)
  case atStart => exact ⟨0, Nat.zero_le _, rfl, rfl, rfl⟩
  case round =>
    obtain ⟨k, hk, rfl, rfl, hw⟩ := hrel
    subst hw
    by_cases hlt : k < n
    · obtain ⟨x, rfl⟩ := h0.some_ (by omega)
      have cx := h0.cell x rfl k hlt
      have es : topZ (-4611686018427387904) zs (k + 1) = max (topZ (-4611686018427387904) zs k) (cZ (zs.getD k 0)) := rfl
      obtain ⟨Z, eZ⟩ : ∃ Z, zs.getD k 0 = Z := ⟨_, rfl⟩
      obtain ⟨S, eS⟩ : ∃ S, topZ (-4611686018427387904) zs k = S := ⟨_, rfl⟩
      rw [eZ] at cx es
      rw [eS] at es ⊢
      obtain ⟨C, eC⟩ : ∃ C, cZ Z = C := ⟨_, rfl⟩
      have kc := fun W => rCc Z W
      rw [eC] at es kc
      have Es : Hid (topZ (-4611686018427387904) zs (k + 1) = max S C) := es
      clear eZ eS es eC
      rcases Int.lt_trichotomy S C with h | h | h
      · go_wp2_with (go_at_call 73; refine (kc _).mono ?_; rintro e w' ⟨rfl, h⟩; obtain rfl := h.symm)
        all_goals
          go_roundw
          case rel => exact ⟨k + 1, by omega, by go_num, by rw [Es.out]; congr 1; omega, trivial⟩
          case measure => simp [intOf]; omega
      · subst h
        go_wp2_with (go_at_call 73; refine (kc _).mono ?_; rintro e w' ⟨rfl, h⟩; obtain rfl := h.symm)
        all_goals
          go_roundw
          case rel => exact ⟨k + 1, by omega, by go_num, by rw [Es.out]; congr 1; omega, trivial⟩
          case measure => simp [intOf]; omega
      · go_wp2_with (go_at_call 73; refine (kc _).mono ?_; rintro e w' ⟨rfl, h⟩; obtain rfl := h.symm)
        all_goals
          go_roundw
          case rel => exact ⟨k + 1, by omega, by go_num, by rw [Es.out]; congr 1; omega, trivial⟩
          case measure => simp [intOf]; omega
    · have e : k = n := by omega
      subst e
      rename World => w
      have tb := topZ_bounds (-4611686018427387904) zs (by decide) k
      have fine := soft_same zs k (-4611686018427387904) (by decide)
      obtain ⟨T, eT⟩ : ∃ T, topZ (-4611686018427387904) zs k = T := ⟨_, rfl⟩
      rw [eT] at tb fine ⊢
      have Fin : Hid ((List.range k).map (shareF zs T (sumE zs T k)) = softZ zs k) := fine
      clear eT fine
      obtain ⟨tb1, tb2, -⟩ := tb
      go_wp2
      go_loopw [5, 6, 7] (fun s v i wr => ∃ j : Nat, j ≤ k ∧ i = .int .i64 j ∧ s = .int .i64 (sumE zs T j) ∧ Below w.heap.size w wr ∧ wr.ownsRow w.heap.size 2 1 v j (gath (powE zs T) .i64 j)) (fun _ _ i _ => k - (intOf i).toNat)
      case atStart => exact ⟨0, Nat.zero_le _, rfl, rfl, Below.refl _ _, World.ownsRow_nil _ _ _ _⟩
      case round =>
        obtain ⟨j, hj, rfl, rfl, hbr, ho⟩ := hrel
        by_cases hlt : j < k
        · have hr := h0.below hbr
          obtain ⟨x, rfl⟩ := h0.some_ (by omega)
          have cx := hr.cell x rfl j hlt
          have tb0 := tb2 (by omega)
          have sb := sumE_bounds zs T j
          have pb := powE_bounds zs T j
          have cb := cZb (zs.getD j 0)
          have kc := fun W => rCc (zs.getD j 0) W
          have ke := fun (h : (Lit.int .i64 (cZ (zs.getD j 0) - T)).wf = true) W => refExp_call (cZ (zs.getD j 0) - T) h W
          have ep : expZ (cZ (zs.getD j 0) - T) = powE zs T j := rfl
          have es : sumE zs T (j + 1) = sumE zs T j + powE zs T j := rfl
          rw [ep] at ke
          obtain ⟨E, eE⟩ : ∃ E, powE zs T j = E := ⟨_, rfl⟩
          obtain ⟨S, eS⟩ : ∃ S, sumE zs T j = S := ⟨_, rfl⟩
          obtain ⟨C, eC⟩ : ∃ C, cZ (zs.getD j 0) = C := ⟨_, rfl⟩
          rw [eC] at cb kc ke
          obtain ⟨X, eX⟩ : ∃ X, zs.getD j 0 = X := ⟨_, rfl⟩
          rw [eX] at cx kc
          rw [eE] at pb es ke
          rw [eS] at sb es ⊢
          have Ez : Hid (E = powE zs T j) := eE.symm
          have Es : Hid (sumE zs T (j + 1) = S + E) := es
          obtain ⟨s0, s1⟩ := sb
          obtain ⟨p0, p1⟩ := pb
          obtain ⟨q0, q1⟩ := cb
          have wc : (Lit.int .i64 (C - T)).wf = true := WalkArith.wf_i64 ⟨by omega, by omega⟩
          clear eE eS eC eX ep es hr tb2
          go_wp2_with (first
            | (go_at_call 73; refine (kc _).mono ?_; rintro e w' ⟨rfl, h⟩; obtain rfl := h.symm)
            | (go_at_call 142; refine (ke wc _).mono ?_; rintro e W2 ⟨rfl, hb2⟩
               have ho2 := oBe ho hb2
               have hbr2 := bTn hbr hb2
               have hsz2 := hbr2.size
               clear ho hbr hb2)
            | (at_builtin; refine wpList_append_own _ rfl (.tmp 38) (.tmp 40) 34 rfl w.heap.size 2 i0 (.int .i64 0) 1 8 Tryz.underlying34 hi hz0 hz1 hz2 rfl (by decide) _ _ _ rfl (ho2.alloc _) ⟨_, 0, none⟩ 1 1 [.int .i64 E] rfl rfl (one_new _ _ _) (oOc _ _) (by unfold maxLen; omega) (by omega) (by simp; omega) ?_; intro v' w1 ho' hg _))
          go_roundw
          case rel => exact ⟨j + 1, by omega, by go_num, by rw [Es.out], aSt hsz2 Ez.out hbr2 ho2 ho' hg⟩
          case measure => simp [intOf]; omega
        · have e : j = k := by omega
          subst e
          have sb := sumE_bounds zs T j
          obtain ⟨pe, ce, rfl, re⟩ := oRe (zs := (List.range j).map (powE zs T)) ho (by simp) (fun z hz => by obtain ⟨y, _, rfl⟩ := List.mem_map.1 hz; have := powE_bounds zs T y; exact WalkArith.wf_i64 ⟨by omega, by omega⟩) (fun i hi => by rw [gath_at _ _ _ _ hi]; simp [hi])
          clear ho
          rename World => W2
          obtain ⟨S, eS⟩ : ∃ S, sumE zs T j = S := ⟨_, rfl⟩
          rw [eS] at sb ⊢
          have ES : Hid (sumE zs T j = S) := eS
          clear eS
          have wS : (Lit.int .i64 S).wf = true := WalkArith.wf_i64 ⟨by omega, by omega⟩
          go_wp2
          go_loopw [9, 10] (fun v i wr => ∃ l : Nat, l ≤ j ∧ i = .int .i64 l ∧ Below W2.heap.size W2 wr ∧ wr.ownsRow W2.heap.size 2 1 v l (gath (shareF zs T S) .i64 l)) (fun _ i _ => j - (intOf i).toNat)
          case atStart => exact ⟨0, Nat.zero_le _, rfl, Below.refl _ _, World.ownsRow_nil _ _ _ _⟩
          case round =>
            obtain ⟨l, hl, rfl, hbl, ho⟩ := hrel
            by_cases hlt : l < j
            · have hr := re.below hbl
              obtain ⟨x, rfl⟩ := re.some_ (by omega)
              have cx := hr.cell x rfl l hlt
              rw [show ((List.range j).map (powE zs T)).getD l 0 = powE zs T l by simp [List.getD, hlt]] at cx
              have hsz := hbl.size
              have pb := powE_bounds zs T l
              have kd := fun (w' : (Lit.int .i64 (powE zs T l)).wf = true) W => refDiv_call (powE zs T l) S w' wS W
              have ef : divZ (powE zs T l) S = shareF zs T S l := rfl
              rw [ef] at kd
              obtain ⟨E, eE⟩ : ∃ E, powE zs T l = E := ⟨_, rfl⟩
              obtain ⟨G, eG⟩ : ∃ G, shareF zs T S l = G := ⟨_, rfl⟩
              rw [eE] at cx pb kd
              rw [eG] at kd
              have Ez : Hid (G = shareF zs T S l) := eG.symm
              have wE : (Lit.int .i64 E).wf = true := WalkArith.wf_i64 ⟨by omega, by omega⟩
              clear eE eG ef hr
              go_wp2_with (first
                | (go_at_call 143; refine (kd wE _).mono ?_; rintro e w' ⟨rfl, h⟩; obtain rfl := h.symm)
                | (at_builtin; refine wpList_append_own _ rfl (.tmp 51) (.tmp 58) 34 rfl W2.heap.size 2 i0 (.int .i64 0) 1 8 Tryz.underlying34 hi hz0 hz1 hz2 rfl (by decide) _ _ _ rfl (ho.alloc _) ⟨_, 0, none⟩ 1 1 [.int .i64 G] rfl rfl (one_new _ _ _) (oOc _ _) (by unfold maxLen; omega) (by omega) (by simp; omega) ?_; intro v' w1 ho' hg _))
              go_roundw
              case rel => exact ⟨l + 1, by omega, by go_num, aSt hsz Ez.out hbl ho ho' hg⟩
              case measure => simp [intOf]; omega
            · have e : l = j := by omega
              subst e
              have fin := oRe (zs := softZ zs l) ho (by rw [← Fin.out]; simp) (fun z hz => by rw [← Fin.out] at hz; obtain ⟨y, _, rfl⟩ := List.mem_map.1 hz; exact wf_divZ _ _) (fun i hi => by rw [gath_at _ _ _ _ hi, ← Fin.out, ES.out]; simp [hi])
              obtain ⟨a, c, rfl, hr⟩ := fin
              have hend := bTn hbr hbl
              clear ho hbl hbr re
              go_wp2
              go_ret
              exact ⟨⟨_, _, rfl, hr⟩, hend⟩
theorem refInner_same (a0:Option Addr)(n c0:Nat)(zs:List Int)(a1:Option Addr)(c1:Nat)(xs:List Int)(w:World)
  (h0:Reads .i64 w a0 n zs) (h1:Reads .i64 w a1 n xs) :
  Calls Tryz.prog 127 #[.slice a0 n c0,.slice a1 n c1] w fun e w'=>e=.returned (.tuple #[.int .i64 (atdotZ zs xs 16),.int .i64 0])∧∃ m,w'=w.drewN m:=by
 have hm:=h0.max
 have hl:zs.length=n:=h0.len
 unfold atdotZ
 rw[hl]
 clear hl
 go_enter Tryz.func127,Tryz.ntmps127
 go_wp2
 go_loopw [6,7] (fun s i wr=>∃ k:Nat,k≤n∧i=.int .i64 k∧s=.int .i64 (sumZ zs xs k)∧∃ m,wr=w.drewN m) (fun _ i _=>n-(intOf i).toNat)
 case atStart=>exact⟨0,Nat.zero_le _,rfl,rfl,0,rfl⟩
 case round =>
  obtain⟨k,hk,rfl,rfl,m,hw⟩:=hrel
  by_cases hlt:k<n
  ·obtain⟨x,rfl⟩:=h0.some_ (by omega)
   obtain⟨y,rfl⟩:=h1.some_ (by omega)
   have cx:wr.cell? (x.add k)=some (.int .i64 (zs.getD k 0)):=by rw[hw];exact h0.cell x rfl k hlt
   have cy:wr.cell? (y.add k)=some (.int .i64 (xs.getD k 0)):=by rw[hw];exact h1.cell y rfl k hlt
   have Hw:Hid (wr=w.drewN m):=hw
   clear hw
   have wz:=h0.wf k
   have es:sumZ zs xs (k+1)=addZ (sumZ zs xs k) (cZ (zs.getD k 0)*cZ (xs.getD k 0)):=rfl
   have ws:=wf_sumZ zs xs k
   obtain⟨Z,eZ⟩:∃ Z,zs.getD k 0=Z:=⟨_,rfl⟩
   obtain⟨X,eX⟩:∃ X,xs.getD k 0=X:=⟨_,rfl⟩
   obtain⟨S,eS⟩:∃ S,sumZ zs xs k=S:=⟨_,rfl⟩
   rw[eZ] at cx es wz
   rw[eX] at cy es
   rw[eS] at es ws ⊢
   have Es:Hid (sumZ zs xs (k+1)=addZ S (cZ Z*cZ X)):=es
   clear eZ eX eS es
   have bz:-2147483648≤cZ Z∧cZ Z≤2147483647:=cZb Z
   have bx:=cZb X
   have bp:=prodD_bounds _ _ bz bx
   have wp:(Lit.int .i64 (cZ Z*cZ X)).wf=true:=WalkArith.wf_i64 ⟨by omega,by omega⟩
   go_wp2
   go_quiet (first|(go_at_call 73;refine Calls.quiet_of_same (rCc _ _))|(go_at_call 72;refine Calls.quiet_of_same (refAdd_call _ _ ws wp _)))
   go_wp2
   go_roundw
   case rel=>exact⟨k+1,by omega,by go_num,by rw[Es.out],_,by rw[Hw.out,World.drewN_drewN]⟩
   case measure=>simp[intOf];omega
  ·have e:k=n:=by omega
   subst e
   subst hw
   have ws:=wf_sumZ zs xs k
   go_wp2_with (first|(go_at_call 74;refine (refShift_call _ _ ws (by decide) _).mono ?_;rintro e w' ⟨rfl,rfl⟩)|(go_at_call 73;refine (rCc _ _).mono ?_;rintro e w' ⟨rfl,rfl⟩))
   go_ret2
   exact⟨rfl,_,rfl⟩
theorem refInner_call (a0:Option Addr)(n0 c0:Nat)(zs:List Int)(a1:Option Addr)(n1 c1:Nat)(xs:List Int)(w:World)
  (h0:Reads .i64 w a0 n0 zs) (h1:Reads .i64 w a1 n1 xs) :
  Calls Tryz.prog 127 #[.slice a0 n0 c0,.slice a1 n1 c1] w fun e w'=>e=.returned (.tuple #[.int .i64 (if n0=n1 then atdotZ zs xs 16 else 0),.int .i64 (if n0=n1 then 0 else 21)])∧∃ m,w'=w.drewN m:=by
 by_cases e:n0=n1
 ·subst e
  simp only[if_true]
  exact refInner_same _ _ _ _ _ _ _ _ h0 h1
 ·simp only[if_neg e]
  have e':((n0:Int)==(n1:Int))=false:=by simp;omega
  go_enter Tryz.func127,Tryz.ntmps127
  go_wp2_with fail
  go_ret2
  exact⟨rfl,0,rfl⟩
theorem len_mul' (d:Nat)(hb:d*8≤140737488355328):0≤(d:Int)*65536∧(d:Int)*65536≤9223372036854775807:=by omega
theorem refHead_yes (a0 : Option Addr) (d c0 : Nat) (q : List Int) (a1 : Option Addr) (n c1 : Nat) (A : Nat → Option Addr) (C : Nat → Nat) (K : Nat → List Int) (a2 : Option Addr) (c2 : Nat) (A' : Nat → Option Addr) (C' : Nat → Nat) (V : Nat → List Int) (w : World)
    (h0 : Reads .i64 w a0 d q) (h1 : Grid w a1 n A C K) (h2 : Grid w a2 n A' C' V) (hd : 0 < d) (hn : 0 < n) (hr : ∀ r, r < n → (K r).length = d ∧ (V r).length = d) (hb0 : d * 8 ≤ 140737488351232) (hb1 : n * 8 ≤ 140737488351232) :
    Calls Tryz.prog 108 #[.slice a0 d c0, .slice a1 n c1, .slice a2 n c2] w fun e w' => (∃ a c, e = .returned (.tuple #[.slice a d c, .int .i64 0]) ∧ Reads .i64 w' a d (headZ q K V d n) ∧ (a = none → c = 0)) ∧ Below w.heap.size w w' := by
  obtain ⟨i0, hi, hz0, hz1, hz2⟩ := info_parts info2
  have hm := h0.max
  have hm1 := h1.max
  have lm := len_mul' d (by omega)
  have kf := shapes_yes a0 d c0 a1 n c1 A C K a2 c2 A' C' V w h1 h2 hd hn hr
  have kr := refRsqrt_call ((d : Int) * 65536)
  have wr' := wf_rsqrtZ ((d : Int) * 65536)
  have ef : ∀ i, scoreF q K d i = mulZ (atdotZ q (K i) 16) (rsqrtZ ((d : Int) * 65536)) := fun _ => rfl
  obtain ⟨S, eS⟩ : ∃ S, rsqrtZ ((d : Int) * 65536) = S := ⟨_, rfl⟩
  rw [eS] at kr wr'
  simp only [eS] at ef
  clear eS
  have sl := softZ_bounds (scoresZ q K d n) n
  have eh : headZ q K V d n = (List.range d).map (atblendZ (softZ (scoresZ q K d n) n) V n) := rfl
  have wh := wf_headZ q K V d n
  have lh := headZ_length q K V d n
  have kso := fun (W : World) a c (h : Reads .i64 W a n (scoresZ q K d n)) => refSoft_call a n c (scoresZ q K d n) W h (by omega)
  obtain ⟨s, es⟩ : ∃ s, softZ (scoresZ q K d n) n = s := ⟨_, rfl⟩
  rw [es] at sl eh
  simp only [es] at kso
  clear es
  go_enter Tryz.func108, Tryz.ntmps108
  go_wp2_with (first
    | (go_at_call 107; refine kf.mono ?_; rintro e w' ⟨rfl, h⟩; obtain rfl := h.symm; clear kf)
    | (go_at_call 75; refine (kr _).mono ?_; rintro e w' ⟨rfl, h⟩; obtain rfl := h.symm))
  go_loopw [9, 10] (fun v i wr => ∃ k : Nat, k ≤ n ∧ i = .int .i64 k ∧ Below w.heap.size w wr ∧ wr.ownsRow w.heap.size 2 1 v k (gath (scoreF q K d) .i64 k)) (fun _ i _ => n - (intOf i).toNat)
  case atStart => exact ⟨0, Nat.zero_le _, rfl, Below.refl _ _, World.ownsRow_nil _ _ _ _⟩
  case round =>
    obtain ⟨k, hk, rfl, hbr, ho⟩ := hrel
    by_cases hlt : k < n
    · have hg := h1.below hbr
      obtain ⟨x, rfl⟩ := h1.some_ (by omega)
      have cx := hg.cell x rfl k hlt
      have rk := hg.row k hlt
      rw [(hr k hlt).1] at cx rk
      have ki := refInner_call a0 d c0 q (A k) d (C k) (K k) wr (h0.below hbr) rk
      simp only [if_true] at ki
      have wd := wf_dotZ q (K k) 16
      have efk := ef k
      obtain ⟨D, eD⟩ : ∃ D, atdotZ q (K k) 16 = D := ⟨_, rfl⟩
      rw [eD] at ki wd efk
      have km := fun W => refMul_call D S wd wr' W
      rw [← efk] at km
      obtain ⟨E, eE⟩ : ∃ E, scoreF q K d k = E := ⟨_, rfl⟩
      rw [eE] at km
      have Ez : Hid (E = scoreF q K d k) := eE.symm
      clear eE efk eD ef hg rk h1 h0 hr kr h2 kso sl eh wh lh
      go_wp2_with (first
        | (go_at_call 127; refine ki.mono ?_; rintro e W2 ⟨rfl, hq⟩
           have hb2 := bDr (Below.refl wr.heap.size wr) hq
           have ho2 := oBe ho hb2
           have hbr2 := bTn hbr hb2
           have hsz2 := hbr2.size
           clear hb2 hq ki ho hbr)
        | (go_at_call 76; refine (km _).mono ?_; rintro e w' ⟨rfl, h⟩; obtain rfl := h.symm)
        | (at_builtin; refine wpList_append_own _ rfl (.tmp 42) (.tmp 46) 34 rfl w.heap.size 2 i0 (.int .i64 0) 1 8 Tryz.underlying34 hi hz0 hz1 hz2 rfl (by decide) _ _ _ rfl (ho2.alloc _) ⟨_, 0, none⟩ 1 1 [.int .i64 E] rfl rfl (one_new _ _ _) (oOc _ _) (by unfold maxLen; omega) (by omega) (by simp; omega) ?_; intro v' w1 ho' hg _))
      go_roundw
      case rel => exact ⟨k + 1, by omega, by go_num, aSt hsz2 Ez.out hbr2 ho2 ho' hg⟩
      case measure => simp [intOf]; omega
    · have e : k = n := by omega
      subst e
      rename World => W1
      obtain ⟨ta, tc, rfl, rt⟩ := oRe (zs := scoresZ q K d k) ho (scoresZ_length ..) (fun z hz => by obtain ⟨y, _, rfl⟩ := List.mem_map.1 hz; exact wf_mulZ _ _) (fun i hi => by rw [gath_at _ _ _ _ hi]; simp [scoresZ, hi])
      have ks := kso W1 ta tc rt
      clear ho kso rt ef
      go_wp2_with (first
        | (go_at_call 128; refine ks.mono ?_; rintro e W2 ⟨⟨sa, sc, rfl, r2⟩, b2⟩; replace b2 := bTn hbr b2; clear ks hbr))
      have g2 := h2.below b2
      clear h2 h1 h0
      go_loopw [14, 15] (fun v i wr => ∃ j : Nat, j ≤ d ∧ i = .int .i64 j ∧ Below W2.heap.size W2 wr ∧ wr.ownsRow W2.heap.size 2 1 v j (gath (atblendZ s V k) .i64 j)) (fun _ i _ => d - (intOf i).toNat)
      case atStart => exact ⟨0, Nat.zero_le _, rfl, Below.refl _ _, World.ownsRow_nil _ _ _ _⟩
      case round =>
        obtain ⟨j, hj, rfl, hbr, ho⟩ := hrel
        by_cases hlt : j < d
        · have rs := r2.below hbr
          have gv := g2.below hbr
          have hsz := hbr.size
          rename World => W3
          clear eh wh lh kr wr'
          go_wp2
          go_loopw [16, 17] (fun b i wr => ∃ l : Nat, l ≤ k ∧ i = .int .i64 l ∧ b = .int .i64 (atblendTo s V j l) ∧ ∃ m, wr = W3.drewN m) (fun _ i _ => k - (intOf i).toNat)
          case atStart => exact ⟨0, Nat.zero_le _, rfl, rfl, 0, rfl⟩
          case round =>
            obtain ⟨l, hl, rfl, rfl, m, hw⟩ := hrel
            by_cases hlt' : l < k
            · obtain ⟨x, rfl⟩ := rs.some_ (by omega)
              obtain ⟨y, rfl⟩ := gv.some_ (by omega)
              have cx : wr.cell? (x.add l) = some (.int .i64 (s.getD l 0)) := by rw [hw]; exact rs.cell x rfl l hlt'
              have rk := gv.row l hlt'
              have cy : wr.cell? (y.add l) = some (.slice (A' l) d (C' l)) := by rw [hw, ← (hr l hlt').2]; exact gv.cell y rfl l hlt'
              rw [(hr l hlt').2] at rk
              obtain ⟨z, ez⟩ := rk.some_ (by omega)
              have cz : wr.cell? (z.add j) = some (.int .i64 ((V l).getD j 0)) := by rw [hw]; exact rk.cell z ez j hlt
              rw [ez] at cy
              have es : atblendTo s V j (l + 1) = addZ (atblendTo s V j l) (s.getD l 0 * cZ ((V l).getD j 0)) := rfl
              have ws := atwf_blendTo s V j l
              have bs := sl l
              obtain ⟨X, eX⟩ : ∃ X, s.getD l 0 = X := ⟨_, rfl⟩
              obtain ⟨Y, eY⟩ : ∃ Y, (V l).getD j 0 = Y := ⟨_, rfl⟩
              obtain ⟨T, eT⟩ : ∃ T, atblendTo s V j l = T := ⟨_, rfl⟩
              rw [eX] at cx es bs
              rw [eY] at cz es
              rw [eT] at es ws ⊢
              have bc := cZb Y
              have bp := prodD_bounds _ _ bs bc
              have wp : (Lit.int .i64 (X * cZ Y)).wf = true := WalkArith.wf_i64 ⟨by omega, by omega⟩
              have Es : Hid (atblendTo s V j (l + 1) = addZ T (X * cZ Y)) := es
              have Hw : Hid (wr = W3.drewN m) := hw
              clear eX eY eT es rk hw rs gv hr sl g2 r2 hbr ho b2 hi hz0 hz1 hz2 ez hn
              go_wp2
              go_quiet (first | (go_at_call 73; refine Calls.quiet_of_same (rCc _ _)) | (go_at_call 72; refine Calls.quiet_of_same (refAdd_call _ _ ws wp _)))
              go_wp2
              go_roundw
              case rel => exact ⟨l + 1, by omega, by go_num, by rw [Es.out], _, by rw [Hw.out, World.drewN_drewN]⟩
              case measure => simp [intOf]; omega
            · have e : l = k := by omega
              subst e
              have ws := atwf_blendTo s V j l
              have hq := bDr (Below.refl W3.heap.size W3) ⟨m, hw⟩
              have ho2 := oBe ho hq
              have hbr2 := bTn hbr hq
              have hsz2 := hbr2.size
              have ksh := fun W => refShift_call (atblendTo s V j l) 16 ws (by decide) W
              have kcl := fun W => rCc (shiftZ (atblendTo s V j l) 16) W
              have eb : cZ (shiftZ (atblendTo s V j l) 16) = atblendZ s V l j := rfl
              obtain ⟨T, eT⟩ : ∃ T, atblendTo s V j l = T := ⟨_, rfl⟩
              rw [eT] at eb ⊢
              simp only [eT] at ksh kcl
              obtain ⟨U, eU⟩ : ∃ U, shiftZ T 16 = U := ⟨_, rfl⟩
              rw [eU] at eb
              simp only [eU] at ksh kcl
              obtain ⟨E, eE⟩ : ∃ E, cZ U = E := ⟨_, rfl⟩
              rw [eE] at eb
              simp only [eE] at kcl
              have Ez : Hid (E = atblendZ s V l j) := eb
              clear eE eU eT eb hw hq ho hbr rs gv hr sl g2 r2 ws
              go_wp2_with (first
                | (go_at_call 74; refine (ksh _).mono ?_; rintro e w' ⟨rfl, h⟩; obtain rfl := h.symm)
                | (go_at_call 73; refine (kcl _).mono ?_; rintro e w' ⟨rfl, h⟩; obtain rfl := h.symm)
                | (at_builtin; refine wpList_append_own _ rfl (.tmp 77) (.tmp 81) 34 rfl W2.heap.size 2 i0 (.int .i64 0) 1 8 Tryz.underlying34 hi hz0 hz1 hz2 rfl (by decide) _ _ _ rfl (ho2.alloc _) ⟨_, 0, none⟩ 1 1 [.int .i64 E] rfl rfl (one_new _ _ _) (oOc _ _) (by unfold maxLen; omega) (by omega) (by simp; omega) ?_; intro v' w1 ho' hg _))
              go_roundw
              case rel => exact ⟨j + 1, by omega, by go_num, aSt hsz2 Ez.out hbr2 ho2 ho' hg⟩
              case measure => simp [intOf]; omega
        · have e : j = d := by omega
          subst e
          obtain ⟨a, c, rfl, hR⟩ := oRe (zs := headZ q K V j k) ho lh wh (fun i hi => by rw [gath_at _ _ _ _ hi, eh]; simp [hi])
          have hend := bTn b2 hbr
          have hnone : a = none → c = 0 := fun h => by
            obtain ⟨x, hx⟩ := hR.some_ hd
            rw [hx] at h
            cases h
          clear ho hbr
          go_wp2
          go_ret2
          exact ⟨⟨_, _, rfl, hR, hnone⟩, hend⟩
end Go.Proofs.YthliomlmhfjhnaaGreat

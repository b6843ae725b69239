/- Texts put together. -/
import Derived.Test.YthliomlmhfjhnaaGreatZs8
import Derived.Test.YthliomlmhfjhnaaGreatZs7
namespace Go.Proofs.YthliomlmhfjhnaaGreat
set_option maxRecDepth 20000
set_option maxHeartbeats 16000000
open Go.ChangeShapes Go.WideShapes Go.ChangeAt Go.RowKit
set_option linter.unusedVariables false
set_option linter.unusedSimpArgs false
def sqZ (z:List Int):Nat→Int
 | 0=>0
 | k+1=>addZ (sqZ z k) (cZ (z.getD k 0)*cZ (z.getD k 0))
theorem wf_sqZ (z:List Int)(k:Nat):(Lit.int .i64 (sqZ z k)).wf=true:=by
 cases k with
 | zero=>show (Lit.int .i64 0).wf=true;decide
 | succ k=>exact wf_addZ _ _
theorem sq_nat (x:Int)(h:-2147483648≤x∧x≤2147483648):0≤x*x∧x*x≤4611686018427387904:=by
 have e:x*x=((x.natAbs*x.natAbs:Nat):Int):=by rw[←Int.natAbs_mul_self]
 have b:x.natAbs*x.natAbs≤2147483648*2147483648:=Nat.mul_le_mul (by omega) (by omega)
 omega
theorem sq_prod (x:Int):0≤cZ x*cZ x∧cZ x*cZ x≤4611686018427387904:=by
 have b:=cZb x
 exact sq_nat _ ⟨by omega,by omega⟩
theorem sqZ_bounds (z:List Int)(k:Nat):0≤sqZ z k∧sqZ z k≤9223372036854775807:=by
 induction k with
 | zero=>exact⟨Int.le_refl _,show (0:Int)≤9223372036854775807 by decide⟩
 | succ k ih =>
  have p:=sq_prod (z.getD k 0)
  show 0≤addZ (sqZ z k) _∧addZ (sqZ z k) _≤_
  generalize cZ (z.getD k 0)*cZ (z.getD k 0)=P at *
  unfold addZ
  repeat' split
  all_goals omega
def meanZ (z:List Int)(n:Nat):Int:=cZ (shiftZ ((sqZ z n).tdiv n) 16+1)
theorem tdiv_bounds (S:Int)(n:Nat)(h0:0≤S):0≤S.tdiv n∧S.tdiv n≤S:=by
 rw[Int.tdiv_eq_ediv_of_nonneg h0]
 exact⟨Int.ediv_nonneg h0 (Int.natCast_nonneg n),Int.ediv_le_self _ h0⟩
theorem shift16_bounds (x:Int)(h0:0≤x)(h1:x≤9223372036854775807):0≤shiftZ x 16∧shiftZ x 16≤4611686018427387905:=by
 unfold shiftZ
 rw[if_neg (by omega),if_neg (by omega)]
 have:=shN_bounds x (min 16 62) h0 (by omega) (by omega)
 omega
theorem meanSquare_call (a0:Option Addr)(n c0:Nat)(zs:List Int)(w:World)(h0:Reads .i64 w a0 n zs)(hn:0<n) :
  Calls Tryz.prog 102 #[.slice a0 n c0] w fun e w'=>e=.returned (.int .i64 (meanZ zs n))∧w'=w:=by
 have hm:=h0.max
 unfold meanZ
 go_enter Tryz.func102,Tryz.ntmps102
 go_wp2
 go_loopw [3,8] (fun s i wr=>∃ k:Nat,k≤n∧i=.int .i64 k∧s=.int .i64 (sqZ zs k)∧wr=w) (fun _ i _=>n-(intOf i).toNat)
 case atStart=>exact⟨0,Nat.zero_le _,rfl,rfl,rfl⟩
 case round =>
  obtain⟨k,hk,rfl,rfl,hw⟩:=hrel
  subst hw
  by_cases hlt:k<n
  ·obtain⟨x,rfl⟩:=h0.some_ (by omega)
   have cx:=h0.cell x rfl k hlt
   have es:sqZ zs (k+1)=addZ (sqZ zs k) (cZ (zs.getD k 0)*cZ (zs.getD k 0)):=rfl
   have ws:=wf_sqZ zs k
   obtain⟨Z,eZ⟩:∃ Z,zs.getD k 0=Z:=⟨_,rfl⟩
   obtain⟨S,eS⟩:∃ S,sqZ zs k=S:=⟨_,rfl⟩
   rw[eZ] at cx es
   rw[eS] at es ws ⊢
   have Es:Hid (sqZ zs (k+1)=addZ S (cZ Z*cZ Z)):=es
   clear eZ eS es
   have bp:=sq_prod Z
   have wp:(Lit.int .i64 (cZ Z*cZ Z)).wf=true:=WalkArith.wf_i64 ⟨by omega,by omega⟩
   go_wp2_with (first|(go_at_call 114;refine (cCa _ _).mono ?_;rintro e w' ⟨rfl,h⟩;obtain rfl:=h.symm)|(go_at_call 113;refine (add_call _ _ ws wp _).mono ?_;rintro e w' ⟨rfl,h⟩;obtain rfl:=h.symm))
   go_roundw
   case rel=>exact⟨k+1,by omega,by go_num,by rw[Es.out],trivial⟩
   case measure=>simp[intOf];omega
  ·have e:k=n:=by omega
   subst e
   have sb:=sqZ_bounds zs k
   obtain⟨S,eS⟩:∃ S,sqZ zs k=S:=⟨_,rfl⟩
   rw[eS] at sb ⊢
   have ES:Hid (sqZ zs k=S):=eS
   clear eS
   have tb:=tdiv_bounds S k sb.1
   obtain⟨t0,t1⟩:=tb
   have t2:S.tdiv k≤9223372036854775807:=by omega
   have wq:(Lit.int .i64 (S.tdiv k)).wf=true:=WalkArith.wf_i64 ⟨by omega,by omega⟩
   have shb:=shift16_bounds (S.tdiv k) t0 t2
   obtain⟨u0,u1⟩:=shb
   have kz:((k:Int)==0)=false:=by simp;omega
   go_wp2_with (first|(go_at_call 115;refine (shift_call _ _ wq (by decide) _).mono ?_;rintro e w' ⟨rfl,h⟩;obtain rfl:=h.symm)|(go_at_call 114;refine (cCa _ _).mono ?_;rintro e w' ⟨rfl,h⟩;obtain rfl:=h.symm))
   go_ret
   exact⟨by obtain rfl:=ES.out;rfl,rfl⟩
def weighZ (x y:Int):Int:=cZ (shiftZ (x*y) 6)
theorem weigh_bounds (x y:Int)(hx:-2147483648≤x∧x≤2147483647)(hy:-128≤y∧y≤127):-274877906944≤x*y∧x*y≤274877906944:=by
 have h:(x*y).natAbs≤2147483648*128:=by
  rw[Int.natAbs_mul]
  exact Nat.mul_le_mul (by omega) (by omega)
 omega
theorem wf_i8 {y:Int}(h:(Lit.int .i8 y).wf=true):-128≤y∧y≤127:=by
 simpa [Lit.wf,IntKind.min,IntKind.max,IntKind.signed,IntKind.bits] using h
theorem weighed_call (x y:Int)(hx:-2147483648≤x∧x≤2147483647)(hy:(Lit.int .i8 y).wf=true)(w:World) :
  Calls Tryz.prog 103 #[.int .i64 x,.int .i8 y] w fun e w'=>e=.returned (.int .i64 (weighZ x y))∧w'=w:=by
 have b8:=wf_i8 hy
 have bp:=weigh_bounds x y hx b8
 obtain⟨p0,p1⟩:=bp
 obtain⟨b0,b1⟩:=b8
 obtain⟨x0,x1⟩:=hx
 have wp:(Lit.int .i64 (x*y)).wf=true:=WalkArith.wf_i64 ⟨by omega,by omega⟩
 unfold weighZ
 go_enter Tryz.func103,Tryz.ntmps103
 go_wp2_with (first|(go_at_call 115;refine (shift_call _ _ wp (by decide) _).mono ?_;rintro e w' ⟨rfl,h⟩;obtain rfl:=h.symm)|(go_at_call 114;refine (cCa _ _).mono ?_;rintro e w' ⟨rfl,h⟩;obtain rfl:=h.symm))
 go_ret
 exact⟨rfl,rfl⟩
def rmsF (xs ws:List Int)(r:Int)(j:Nat):Int:=weighZ (mulZ (xs.getD j 0) r) (ws.getD j 0)
def rmsZ (xs ws:List Int)(n:Nat):List Int:=(List.range n).map (rmsF xs ws (rsqrtZ (meanZ xs n)))
theorem rms_same (a0:Option Addr)(n c0:Nat)(xs:List Int)(a1:Option Addr)(c1:Nat)(ys:List Int)(w:World)(h0:Reads .i64 w a0 n xs)(h1:Reads .i8 w a1 n ys)(hn:0<n)(hb:n*8≤281474976710656) :
  Calls Tryz.prog 64 #[.slice a0 n c0,.slice a1 n c1] w fun e w'=>(∃ a c,e=.returned (.tuple #[.slice a n c,.int .i64 0])∧Reads .i64 w' a n (rmsZ xs ys n)∧∀ x,a=some x→w.heap.size≤x.block)∧Below w.heap.size w w':=by
 obtain⟨i0,hi,hz0,hz1,hz2⟩:=info_parts info2
 have hm:=h0.max
 have rb:=rsqrtZ_bounds (meanZ xs n)
 have kms:=meanSquare_call a0 n c0 xs w h0 hn
 have krs:=fun W=>rsqrt_call (meanZ xs n) W
 unfold rmsZ
 obtain⟨r,er⟩:∃ r,rsqrtZ (meanZ xs n)=r:=⟨_,rfl⟩
 obtain⟨M,eM⟩:∃ M,meanZ xs n=M:=⟨_,rfl⟩
 rw[er] at rb ⊢
 rw[er] at krs
 rw[eM] at kms krs
 clear er eM
 have wr':(Lit.int .i64 r).wf=true:=WalkArith.wf_i64 ⟨by omega,by omega⟩
 have nz:((n:Int)==0)=false:=by simp;omega
 go_enter Tryz.func64,Tryz.ntmps64
 go_wp2_with (first
  | (go_at_call 102;refine kms.mono ?_;rintro e w' ⟨rfl,h⟩;obtain rfl:=h.symm)
  | (go_at_call 101;refine (krs _).mono ?_;rintro e w' ⟨rfl,h⟩;obtain rfl:=h.symm)
  | (at_make;refine wpList_make_full _ rfl (.tmp 23) (.tmp 23) 34 rfl w.heap.size 2 i0 (.int .i64 0) 1 Tryz.underlying34 hi hz0 hz1 .i64 .i64 _ _ n rfl rfl rfl rfl (by rw[hz2];omega) (by unfold maxLen;omega) (Nat.le_refl _) ?_;intro w1 hown hgrow))
 have hbel:Below w.heap.size w w1:=(Below.refl _ _).grown hgrow (Nat.le_refl _) (fun k h=>by cases h)
 go_wp2
 go_loopw [27] (fun i wr=>∃ k:Nat,k≤n∧i=.int .i64 k∧Below w.heap.size w wr∧∃ cs,wr.ownsRow w.heap.size 2 1 (.slice (some ⟨w.heap.size,0,none⟩) n n) n cs∧∀ j,j<k→cs[j]? = some (.int .i64 (rmsF xs ys r j))) (fun i _=>n-(intOf i).toNat)
 case atStart=>exact⟨0,Nat.zero_le _,rfl,hbel,_,hown,fun j hj=>by omega⟩
 case round =>
  obtain⟨k,hk,rfl,hbr,cs,ho,hcs⟩:=hrel
  by_cases hlt:k<n
  ·have hr:=h0.below hbr
   have hq:=h1.below hbr
   obtain⟨x,rfl⟩:=h0.some_ (by omega)
   obtain⟨y,rfl⟩:=h1.some_ (by omega)
   have cx:=hr.cell x rfl k hlt
   have cy:=hq.cell y rfl k hlt
   have wx:=h0.wf k
   have wy:=h1.wf k
   have hlen:=oLe ho
   have cell:wr.cell? ⟨w.heap.size,k,none⟩=cs[k]?:=ho.cellAt k (by omega)
   obtain⟨u,hu⟩:∃ u,cs[k]? = some u:=⟨cs[k],by simp[hlen,hlt]⟩
   rw[hu] at cell
   have froz:=ho.frozenAt k
   have st:=fun v=>ho.stored k v
   have step:=fun v (h:v=Value.int .i64 (rmsF xs ys r k))=>set_step (F:=fun j=>Value.int .i64 (rmsF xs ys r j)) hlen hlt h hcs
   obtain⟨X,eX⟩:∃ X,xs.getD k 0=X:=⟨_,rfl⟩
   obtain⟨Y,eY⟩:∃ Y,ys.getD k 0=Y:=⟨_,rfl⟩
   have eP:rmsF xs ys r k=weighZ (mulZ X r) Y:=by unfold rmsF;rw[eX,eY]
   rw[eX] at cx wx
   rw[eY] at cy wy
   rw[eP] at step
   have R:Hid (Below w.heap.size w (wr.setCell ⟨w.heap.size,k,none⟩ (.int .i64 (weighZ (mulZ X r) Y)))∧∃ cs',(wr.setCell ⟨w.heap.size,k,none⟩ (.int .i64 (weighZ (mulZ X r) Y))).ownsRow w.heap.size 2 1 (.slice (some ⟨w.heap.size,0,none⟩) n n) n cs'∧∀ j,j<k+1→cs'[j]? = some (.int .i64 (rmsF xs ys r j))) :=
    ⟨hbr.setCell (Nat.le_refl _) _,_,(st _).1,step _ rfl⟩
   have mb:=mulZ_bounds X r
   clear eX eY eP step st hcs ho hu hlen hr hbr hq hown hgrow hbel h0 h1 hi hz0 hz1 hz2 kms krs
   go_wp2
   go_region_with (first
    | (go_at_call 104;refine (mul_call _ _ wx wr' _).mono ?_;rintro e w' ⟨rfl,rfl⟩)
    | (go_at_call 103;refine (weighed_call _ _ mb wy _).mono ?_;rintro e w' ⟨rfl,rfl⟩))
   all_goals
    go_wp2
    go_roundw
    case rel=>exact⟨k+1,by omega,by go_num,R.out.1.drew,R.out.2⟩
    case measure=>simp[intOf];omega
  ·have e:k=n:=by omega
   subst e
   have fin:=oRa (zs:=(List.range k).map (rmsF xs ys r)) ho (by simp) (fun z hz=>by obtain⟨y,_,rfl⟩:=List.mem_map.1 hz;exact wCz _) (fun j hj=>by rw[hcs j hj];simp[hj])
   clear hcs ho
   go_wp2
   go_ret2
   exact⟨⟨_,_,rfl,fin,fun x hx=>Nat.le_of_eq (congrArg Addr.block (Option.some.inj hx))⟩,hbr⟩
theorem slice_oneCell (a:Option Addr)(n c:Nat):∀ u∈[Value.slice a n c],u.oneCell'=true:=by
 intro u hu
 simp at hu
 subst hu
 rfl
theorem ownRows_call (a0:Option Addr)(n0 c0:Nat)(A0:Nat→Option Addr)(C0:Nat→Nat)(R0:Nat→List Int)(w:World)(w0:Grid w a0 n0 A0 C0 R0)(e0:∀ r,r<n0→A0 r=none→C0 r=0)(b0:n0*24≤140737488351232)(g0:∀ r,r<n0→(R0 r).length*8≤140737488351232) :
  Calls Tryz.prog 12 #[.slice a0 n0 c0] w fun e w'=>(∃ a c A C,e=.returned (.slice a n0 c)∧Grid w' a n0 A C R0∧∀ r,r<n0→(R0 r).length≤C r)∧Below w.heap.size w w':=by
 obtain⟨i0,hi,hz0,hz1,hz2⟩:=info_parts info2
 obtain⟨j0,hj,hy0,hy1,hy2⟩:=info_parts info34
 have hm:=w0.max
 go_enter Tryz.func12,Tryz.ntmps12
 go_wp2
 go_loopw [3,4] (fun v i wr=>∃ k:Nat,k≤n0∧i=.int .i64 k∧Below w.heap.size w wr∧∃ A C,OwnGrid w.heap.size wr v k A C R0∧∀ r,r<k→(R0 r).length≤C r) (fun _ i _=>n0-(intOf i).toNat)
 case atStart=>exact⟨0,Nat.zero_le _,rfl,Below.refl _ _,fun _=>none,fun _=>0,OwnGrid.nil _ _ _ _ _,fun r h=>by omega⟩
 case round =>
  obtain⟨k,hk,rfl,hbr,A,C,og,hcap⟩:=hrel
  by_cases hlt:k<n0
  ·have hw:=w0.below hbr
   obtain⟨x,rfl⟩:=w0.some_ (by omega)
   have cx:=fun o=>(w0.below (bNw hbr o)).cell x rfl k hlt
   have rk:=hw.row k hlt
   have ek:=e0 k hlt
   have gk:=g0 k hlt
   have own:=og.own
   have hsz:=hbr.size
   obtain⟨m,em⟩:∃ m,(R0 k).length=m:=⟨_,rfl⟩
   have Em:Hid ((R0 k).length=m):=em
   rw[em] at cx rk gk
   clear em hw
   go_wp2_with (first
    | (at_builtin;refine wpList_copy rfl (.tmp 12) (.tmp 16) 34 rfl wr.heap.size 2 i0 (.int .i64 0) 8 Tryz.underlying34 hi hz0 hz1 hz2 rfl _ 0 [] rfl (World.ownsRow_lit _ #[] 0 (Nat.le_refl _) (by decide) rfl) .i64 (A0 k) m (C0 k) (R0 k) rfl (rk.below (bNw (Below.refl _ _) _)) ek (by unfold maxLen;omega) (by omega) (bNw (Below.refl _ _) _).size ?_;intro v1 W1 ho1 hg1;have loc1:=ho1.lt;obtain⟨p1,q1,rfl,r1,hb1,-,cap1⟩:=copied (Below.refl wr.heap.size wr) _ ho1 hg1 rk;clear ho1 hg1 rk;have own1:=oBe own hb1;have hb1':=bTn hbr hb1)
    | (at_builtin;refine wpList_append_where rfl (.tmp 11) (.tmp 18) 31 rfl w.heap.size 34 j0 (.slice none 0 0) 24 Tryz.underlying31 hj hy0 hy1 hy2 rfl _ k _ rfl (own1.alloc _) ⟨_,0,none⟩ 1 (.slice p1 m q1) rfl (one_new _ _ _) (slice_oneCell _ _ _) (by unfold maxLen;omega) (by omega) (bNw hb1' _).size ?_;intro v2 W2 ho2 hg2 hs2))
   go_roundw
   case rel =>
    have bn:=bNw (Below.refl W1.heap.size W1) (Obj.cells #[Value.slice p1 m q1] 34)
    refine⟨k+1,by omega,by go_num,below_append (bNw hb1' _) (own1.alloc _) hg2,_,_,((og.below hb1).below bn).app (p:=p1) (c:=q1) (by rw[Em.out]) ?_ ?_ ho2 hg2 hs2,?_⟩
    ·rw[Em.out];exact r1.below bn
    ·intro _ y hy g hg e
     have l1:=(loc1 y.block (by rw[hy];rfl)).1
     have l2:=(og.own.lt g hg).2
     omega
    ·intro r hr
     by_cases e:r=k
     ·subst e
      simp only[if_true,Em.out]
      exact cap1
     ·simp only[if_neg e]
      exact hcap r (by omega)
   case measure=>simp[intOf];omega
  ·have e:k=n0:=by omega
   subst e
   obtain⟨p,q,rfl,gr⟩:=og.grid
   clear og hi hz0 hz1 hz2 hj hy0 hy1 hy2
   go_wp2
   go_ret
   exact⟨⟨_,_,_,_,rfl,gr,hcap⟩,hbr⟩
theorem refRms_same (a0:Option Addr)(n c0:Nat)(xs:List Int)(a1:Option Addr)(c1:Nat)(ys:List Int)(w:World)(h0:Reads .i64 w a0 n xs)(h1:Reads .i8 w a1 n ys)(hn:0<n)(hb:n*8≤140737488355328) :
  Calls Tryz.prog 34 #[.slice a0 n c0,.slice a1 n c1] w fun e w'=>(∃ a c,e=.returned (.tuple #[.slice a n c,.int .i64 0])∧Reads .i64 w' a n (rmsZ xs ys n)∧∀ x,a=some x→w.heap.size≤x.block)∧Below w.heap.size w w':=by
 obtain⟨i0,hi,hz0,hz1,hz2⟩:=info_parts info2
 have hm:=h0.max
 have nz:((n:Int)==0)=false:=by simp;omega
 go_enter Tryz.func34,Tryz.ntmps34
 go_wp2
 go_loopw [6,7] (fun s i wr=>∃ k:Nat,k≤n∧i=.int .i64 k∧s=.int .i64 (sqZ xs k)∧∃ m,wr=w.drewN m) (fun _ i _=>n-(intOf i).toNat)
 case atStart=>exact⟨0,Nat.zero_le _,rfl,rfl,0,rfl⟩
 case round =>
  obtain⟨k,hk,rfl,rfl,m,hw⟩:=hrel
  by_cases hlt:k<n
  ·obtain⟨x,rfl⟩:=h0.some_ (by omega)
   have cx:wr.cell? (x.add k)=some (.int .i64 (xs.getD k 0)):=by rw[hw];exact h0.cell x rfl k hlt
   have Hw:Hid (wr=w.drewN m):=hw
   clear hw
   have es:sqZ xs (k+1)=addZ (sqZ xs k) (cZ (xs.getD k 0)*cZ (xs.getD k 0)):=rfl
   have ws:=wf_sqZ xs k
   obtain⟨Z,eZ⟩:∃ Z,xs.getD k 0=Z:=⟨_,rfl⟩
   obtain⟨S,eS⟩:∃ S,sqZ xs k=S:=⟨_,rfl⟩
   rw[eZ] at cx es
   rw[eS] at es ws ⊢
   have Es:Hid (sqZ xs (k+1)=addZ S (cZ Z*cZ Z)):=es
   clear eZ eS es
   have bp:=sq_prod Z
   have wp:(Lit.int .i64 (cZ Z*cZ Z)).wf=true:=WalkArith.wf_i64 ⟨by omega,by omega⟩
   go_wp2
   go_quiet (first|(go_at_call 73;refine Calls.quiet_of_same (rCc _ _))|(go_at_call 72;refine Calls.quiet_of_same (refAdd_call _ _ ws wp _)))
   go_wp2
   go_roundw
   case rel=>exact⟨k+1,by omega,by go_num,by rw[Es.out],_,by rw[Hw.out,World.drewN_drewN]⟩
   case measure=>simp[intOf];omega
  ·have e:k=n:=by omega
   subst e
   have hb0:Below w.heap.size w wr:=bDr (Below.refl _ _) ⟨m,hw⟩
   clear hw
   rename World=>W1
   have sb:=sqZ_bounds xs k
   have rb:=rsqrtZ_bounds (meanZ xs k)
   have krs:=fun W=>refRsqrt_call (meanZ xs k) W
   have eM:meanZ xs k=cZ (shiftZ ((sqZ xs k).tdiv k) 16+1):=rfl
   obtain⟨r,er⟩:∃ r,rsqrtZ (meanZ xs k)=r:=⟨_,rfl⟩
   have Er:Hid (rsqrtZ (meanZ xs k)=r):=er
   rw[er] at rb krs
   rw[eM] at krs
   clear er eM
   obtain⟨S,eS⟩:∃ S,sqZ xs k=S:=⟨_,rfl⟩
   rw[eS] at sb krs ⊢
   clear eS
   obtain⟨t0,t1⟩:=tdiv_bounds S k sb.1
   have t2:S.tdiv k≤9223372036854775807:=by omega
   have wq:(Lit.int .i64 (S.tdiv k)).wf=true:=WalkArith.wf_i64 ⟨by omega,by omega⟩
   obtain⟨u0,u1⟩:=shift16_bounds (S.tdiv k) t0 t2
   have wr':(Lit.int .i64 r).wf=true:=WalkArith.wf_i64 ⟨by omega,by omega⟩
   go_wp2_with (first|(go_at_call 74;refine (refShift_call _ _ wq (by decide) _).mono ?_;rintro e w' ⟨rfl,h⟩;obtain rfl:=h.symm)|(go_at_call 73;refine (rCc _ _).mono ?_;rintro e w' ⟨rfl,h⟩;obtain rfl:=h.symm)|(go_at_call 75;refine (krs _).mono ?_;rintro e w' ⟨rfl,h⟩;obtain rfl:=h.symm))
   clear krs t0 t1 t2 u0 u1 wq sb
   go_loopw [10,11] (fun v i wr=>∃ j:Nat,j≤k∧i=.int .i64 j∧Below w.heap.size w wr∧wr.ownsRow w.heap.size 2 1 v j (gath (rmsF xs ys r) .i64 j)) (fun _ i _=>k-(intOf i).toNat)
   case atStart=>exact⟨0,Nat.zero_le _,rfl,hb0,World.ownsRow_nil _ _ _ _⟩
   case round =>
    obtain⟨j,hj,rfl,hbr,ho⟩:=hrel
    by_cases hlt:j<k
    ·have hr:=h0.below hbr
     have hq:=h1.below hbr
     obtain⟨x,rfl⟩:=h0.some_ (by omega)
     obtain⟨y,rfl⟩:=h1.some_ (by omega)
     have cx:=hr.cell x rfl j hlt
     have cy:=hq.cell y rfl j hlt
     have wx:=h0.wf j
     have wy:=h1.wf j
     have hsz:=hbr.size
     obtain⟨X,eX⟩:∃ X,xs.getD j 0=X:=⟨_,rfl⟩
     obtain⟨Y,eY⟩:∃ Y,ys.getD j 0=Y:=⟨_,rfl⟩
     have eP:cZ (shiftZ (mulZ X r*Y) 6)=rmsF xs ys r j:=by unfold rmsF weighZ;rw[eX,eY]
     have Ep:Hid (cZ (shiftZ (mulZ X r*Y) 6)=rmsF xs ys r j):=eP
     rw[eX] at cx wx
     rw[eY] at cy wy
     have mb:=mulZ_bounds X r
     have b8:=wf_i8 wy
     obtain⟨p0,p1⟩:=weigh_bounds _ _ mb b8
     have wp:(Lit.int .i64 (mulZ X r*Y)).wf=true:=WalkArith.wf_i64 ⟨by omega,by omega⟩
     have ew:IntKind.i64.wrap (mulZ X r*Y)=mulZ X r*Y:=by rw[IntKind.wrap_i64];omega
     have ey:IntKind.i64.wrap Y=Y:=by rw[IntKind.wrap_i64];omega
     clear eX eY eP hr hq h0 h1 hb0
     go_wp2
     go_region_law (first
      | (with_reducible show if Region.wanted { dst:=_,op:=Op.call { callee:=Callee.value (Operand.func 76),args:=_,argTypes:=_ },type:=_,pos:=_,after:=_,guard:=_ } _=true then _ else _;refine step_call2 rfl 76 (.tmp 60) (.tmp 61) _ _ rfl enter25 (.int .i64 X) (.int .i64 r) _ (by simp[Act.eval,Act.put]) (by simp[Act.eval,Act.put]) (refMul_call _ _ wx wr' _) ?_)
      | (with_reducible show if Region.wanted { dst:=_,op:=Op.call { callee:=Callee.value (Operand.func 74),args:=_,argTypes:=_ },type:=_,pos:=_,after:=_,guard:=_ } _=true then _ else _;refine step_call2 rfl 74 (.tmp 68) _ _ _ rfl enter23 (.int .i64 (mulZ X r*Y)) (.int .i64 6) _ (by simp[Act.eval,Act.put,ew,ey]) (by simp[Act.eval,Act.put]) (refShift_call _ _ wp (by decide) _) ?_)
      | (with_reducible show if Region.wanted { dst:=_,op:=Op.call { callee:=Callee.value (Operand.func 73),args:=_,argTypes:=_ },type:=_,pos:=_,after:=_,guard:=_ } _=true then _ else _;refine step_call rfl 73 (.tmp 69) _ rfl enter17 (.int .i64 (shiftZ (mulZ X r*Y) 6)) _ (by simp[Act.eval,Act.put,ew,ey]) (rCc _ _) ?_)
      | (with_reducible show if Region.wanted { dst:=_,op:=Op.call { callee:=Callee.builtin Builtin.append,args:=_,argTypes:=_ },type:=_,pos:=_,after:=_,guard:=_ } _=true then _ else _;refine step_append rfl (.tmp 56) (.tmp 71) 34 rfl w.heap.size 2 i0 (.int .i64 0) 1 8 Tryz.underlying34 hi hz0 hz1 hz2 rfl (by decide) _ _ _ (by simp[Act.eval,Act.put]) (ho.alloc _).drew ⟨wr.heap.size,0,none⟩ 1 1 [.int .i64 (cZ (shiftZ (mulZ X r*Y) 6))] (by simp[Act.eval,Act.put]) rfl (one_newD _ _ _) (oOc _ _) (by unfold maxLen;omega) (by omega) (size_newD _ _ _ hsz) ?_;intro v' w1 ho' hg))
     all_goals
      have R:=aSt hsz Ep.out hbr ho ho' (grown_drew hg)
      clear ho' hg ho hbr
      go_wp2
      go_roundw
      case rel=>exact⟨j+1,by omega,by go_num,R⟩
      case measure=>simp[intOf];omega
    ·have e:j=k:=by omega
     subst e
     have fin:=oRe (zs:=rmsZ xs ys j) ho (by simp[rmsZ]) (fun z hz=>by obtain⟨y,_,rfl⟩:=List.mem_map.1 hz;exact wCz _) (fun i hi=>by rw[gath_at _ _ _ _ hi];unfold rmsZ;rw[Er.out];simp[hi])
     obtain⟨a,c,rfl,hr⟩:=fin
     have fr:Hid (∀ x,a=some x→w.heap.size≤x.block):=fun x hx=>(ho.lt x.block (by rw[hx];rfl)).1
     clear ho
     go_wp2
     go_ret2
     exact⟨⟨_,_,rfl,hr,fr.out⟩,hbr⟩
end Go.Proofs.YthliomlmhfjhnaaGreat

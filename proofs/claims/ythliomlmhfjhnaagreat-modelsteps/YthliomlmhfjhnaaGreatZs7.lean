/- Texts put together. -/
import Derived.Test.YthliomlmhfjhnaaGreatZs0
import Derived.Test.YthliomlmhfjhnaaGreatZs2
namespace Go.Proofs.YthliomlmhfjhnaaGreat
set_option maxRecDepth 20000
set_option maxHeartbeats 16000000
open Go.ChangeShapes Go.WideShapes Go.ChangeAt Go.RowKit
set_option linter.unusedVariables false
set_option linter.unusedSimpArgs false
theorem shN_62 (s:Int):shN s 62=(s/2305843009213693952+1)/2:=by unfold shN;rfl
theorem rCc (x:Int)(w:World) :
  Calls Tryz.prog 73 #[.int .i64 x] w fun e w'=>e=.returned (.int .i64 (cZ x))∧w'=w:=by
 go_enter Tryz.func73,Tryz.ntmps73
 go_wp2
 all_goals (go_ret;refine⟨ret_int ?_,rfl⟩;unfold cZ;repeat' split)
 all_goals (try split at *)
 all_goals omega
theorem refShift_call (x n:Int)(hx:(Lit.int .i64 x).wf=true)(hn:(Lit.int .i64 n).wf=true)(w:World) :
  Calls Tryz.prog 74 #[.int .i64 x,.int .i64 n] w fun e w'=>e=.returned (.int .i64 (shiftZ x n))∧w'=w:=by
 have bx:=bounds_i64 hx
 have bn:=bounds_i64 hn
 by_cases n0:n≤0
 ·have e:shiftZ x n=x:=by unfold shiftZ;rw[if_pos n0]
  rw[e]
  go_enter Tryz.func74,Tryz.ntmps74
  go_wp2
  all_goals go_ret
  all_goals exact⟨rfl,rfl⟩
 ·by_cases x0:x<0
  ·have e:shiftZ x n = -(shN (-x) (min n 62)):=by unfold shiftZ;rw[if_neg n0,if_pos x0]
   rw[e]
   have e1:-(x+1)+1 = -x:=by omega
   by_cases n1:62≤n
   ·have em:min n 62=62:=by omega
    rw[em,shN_62];clear e em
    by_cases p:-x/2305843009213693952%2=1
    ·have p':(-x/2305843009213693952%2==1)=true:=by simp[p]
     go_enter Tryz.func74,Tryz.ntmps74
     go_wp2
     all_goals go_ret
     all_goals (refine⟨ret_int ?_,rfl⟩;omega)
    ·have p':(-x/2305843009213693952%2==1)=false:=by simp[p]
     go_enter Tryz.func74,Tryz.ntmps74
     go_wp2
     all_goals go_ret
     all_goals (refine⟨ret_int ?_,rfl⟩;omega)
   ·have em:min n 62=n:=by omega
    rw[em];clear e em
    have b1:=div_bounds (-x) (n.toNat-1) (by omega)
    have b2:=div_bounds (-x) n.toNat (by omega)
    have b3:=div_step (-x) n (by omega)
    have b4:-x/2 ^ n.toNat≤4611686018427387904:=by omega
    have B:Hid (-x/2 ^ n.toNat = -x/2 ^ (n.toNat-1)/2):=b3
    clear b3
    by_cases p:-x/2 ^ (n.toNat-1)%2=1
    ·have p':(-x/2 ^ (n.toNat-1)%2==1)=true:=by simp[p]
     go_enter Tryz.func74,Tryz.ntmps74
     go_wp2
     all_goals go_ret
     all_goals (refine⟨ret_int ?_,rfl⟩;have b:=B.out;unfold shN;omega)
    ·have p':(-x/2 ^ (n.toNat-1)%2==1)=false:=by simp[p]
     go_enter Tryz.func74,Tryz.ntmps74
     go_wp2
     all_goals go_ret
     all_goals (refine⟨ret_int ?_,rfl⟩;have b:=B.out;unfold shN;omega)
  ·have e:shiftZ x n=shN x (min n 62):=by unfold shiftZ;rw[if_neg n0,if_neg x0]
   rw[e]
   by_cases n1:62≤n
   ·have em:min n 62=62:=by omega
    rw[em,shN_62];clear e em
    by_cases p:x/2305843009213693952%2=1
    ·have p':(x/2305843009213693952%2==1)=true:=by simp[p]
     go_enter Tryz.func74,Tryz.ntmps74
     go_wp2
     all_goals go_ret
     all_goals (refine⟨ret_int ?_,rfl⟩;omega)
    ·have p':(x/2305843009213693952%2==1)=false:=by simp[p]
     go_enter Tryz.func74,Tryz.ntmps74
     go_wp2
     all_goals go_ret
     all_goals (refine⟨ret_int ?_,rfl⟩;omega)
   ·have em:min n 62=n:=by omega
    rw[em];clear e em
    have b1:=div_bounds x (n.toNat-1) (by omega)
    have b2:=div_bounds x n.toNat (by omega)
    have b3:=div_step x n (by omega)
    have b4:x/2 ^ n.toNat≤4611686018427387904:=by omega
    have B:Hid (x/2 ^ n.toNat=x/2 ^ (n.toNat-1)/2):=b3
    clear b3
    by_cases p:x/2 ^ (n.toNat-1)%2=1
    ·have p':(x/2 ^ (n.toNat-1)%2==1)=true:=by simp[p]
     go_enter Tryz.func74,Tryz.ntmps74
     go_wp2
     all_goals go_ret
     all_goals (refine⟨ret_int ?_,rfl⟩;have b:=B.out;unfold shN;omega)
    ·have p':(x/2 ^ (n.toNat-1)%2==1)=false:=by simp[p]
     go_enter Tryz.func74,Tryz.ntmps74
     go_wp2
     all_goals go_ret
     all_goals (refine⟨ret_int ?_,rfl⟩;have b:=B.out;unfold shN;omega)
theorem refMul_call (a b:Int)(ha:(Lit.int .i64 a).wf=true)(hb:(Lit.int .i64 b).wf=true)(w:World) :
  Calls Tryz.prog 76 #[.int .i64 a,.int .i64 b] w fun e w'=>e=.returned (.int .i64 (mulZ a b))∧w'=w:=by
 go_enter Tryz.func76,Tryz.ntmps76
 go_wp2_with (first|(go_at_call 73;refine (rCc _ _).mono ?_;rintro e w' ⟨rfl,rfl⟩)|(go_at_call 74;refine (refShift_call _ _ (wrap64_wf _) (by decide) _).mono ?_;rintro e w' ⟨rfl,rfl⟩))
 go_ret
 exact⟨rfl,rfl⟩
theorem refDiv_call (a b:Int)(ha:(Lit.int .i64 a).wf=true)(hb:(Lit.int .i64 b).wf=true)(w:World) :
  Calls Tryz.prog 143 #[.int .i64 a,.int .i64 b] w fun e w'=>e=.returned (.int .i64 (divZ a b))∧w'=w:=by
 have ba:=cZb a
 have bb:=cZb b
 by_cases z:cZ b=0
 ·have e:divZ a b=noughtZ (cZ a):=by unfold divZ;rw[if_pos z]
  rw[e];clear e
  have z':(cZ b==0)=true:=by simp[z]
  clear z
  go_enter Tryz.func143,Tryz.ntmps143
  go_wp2_with (first|(go_at_call 73;refine (rCc _ _).mono ?_;rintro e w' ⟨rfl,rfl⟩))
  all_goals (go_ret;refine⟨ret_int ?_,rfl⟩;unfold noughtZ;repeat' split)
  all_goals omega
 ·have e:divZ a b=cZ (wrap64 ((cZ a*65536).tdiv (cZ b))):=by unfold divZ;rw[if_neg z]
  rw[e];clear e
  have z':(cZ b==0)=false:=by simp[z]
  go_enter Tryz.func143,Tryz.ntmps143
  go_wp2_with (first|(go_at_call 73;refine (rCc _ _).mono ?_;rintro e w' ⟨rfl,rfl⟩))
  go_ret
  exact⟨rfl,rfl⟩
theorem clampZ_id (z:Int)(h0:-2147483648≤z)(h1:z≤2147483647):cZ z=z:=by
 unfold cZ
 rw[if_neg (by omega),if_neg (by omega)]
theorem refDot_same (a0:Option Addr)(n c0:Nat)(zs:List Int)(a1:Option Addr)(c1:Nat)(xs:List Int)(w:World)
  (h0:Reads .i8 w a0 n zs) (h1:Reads .i64 w a1 n xs) :
  Calls Tryz.prog 89 #[.slice a0 n c0,.slice a1 n c1] w fun e w'=>e=.returned (.tuple #[.int .i64 (dotZ zs xs 6),.int .i64 0])∧∃ m,w'=w.drewN m:=by
 have hm:=h0.max
 have hl:zs.length=n:=h0.len
 unfold dotZ
 rw[hl]
 clear hl
 go_enter Tryz.func89,Tryz.ntmps89
 go_wp2
 go_loopw [6,7] (fun s i wr=>∃ k:Nat,k≤n∧i=.int .i64 k∧s=.int .i64 (prodZ zs xs k)∧∃ m,wr=w.drewN m) (fun _ i _=>n-(intOf i).toNat)
 case atStart=>exact⟨0,Nat.zero_le _,rfl,rfl,0,rfl⟩
 case round =>
  obtain⟨k,hk,rfl,rfl,m,hw⟩:=hrel
  by_cases hlt:k<n
  ·obtain⟨x,rfl⟩:=h0.some_ (by omega)
   obtain⟨y,rfl⟩:=h1.some_ (by omega)
   have cx:wr.cell? (x.add k)=some (.int .i8 (zs.getD k 0)):=by rw[hw];exact h0.cell x rfl k hlt
   have cy:wr.cell? (y.add k)=some (.int .i64 (xs.getD k 0)):=by rw[hw];exact h1.cell y rfl k hlt
   have Hw:Hid (wr=w.drewN m):=hw
   clear hw
   have wz:=h0.wf k
   have es:prodZ zs xs (k+1)=addZ (prodZ zs xs k) (cZ (zs.getD k 0)*cZ (xs.getD k 0)):=rfl
   have ws:=wf_prodZ zs xs k
   obtain⟨Z,eZ⟩:∃ Z,zs.getD k 0=Z:=⟨_,rfl⟩
   obtain⟨X,eX⟩:∃ X,xs.getD k 0=X:=⟨_,rfl⟩
   obtain⟨S,eS⟩:∃ S,prodZ zs xs k=S:=⟨_,rfl⟩
   rw[eZ] at cx es wz
   rw[eX] at cy es
   rw[eS] at es ws ⊢
   have b8:-128≤Z∧Z≤127:=by simpa [Lit.wf,IntKind.min,IntKind.max,IntKind.signed,IntKind.bits] using wz
   rw[clampZ_id Z (by omega) (by omega)] at es
   have Es:Hid (prodZ zs xs (k+1)=addZ S (Z*cZ X)):=es
   clear eZ eX eS es
   have bz:-2147483648≤Z∧Z≤2147483647:=⟨by omega,by omega⟩
   have bx:=cZb X
   have bp:=prodM_bounds _ _ bz bx
   have wp:(Lit.int .i64 (Z*cZ X)).wf=true:=WalkArith.wf_i64 ⟨by omega,by omega⟩
   go_wp2
   go_quiet (first|(go_at_call 73;refine Calls.quiet_of_same (rCc _ _))|(go_at_call 72;refine Calls.quiet_of_same (refAdd_call _ _ ws wp _)))
   go_wp2
   go_roundw
   case rel=>exact⟨k+1,by omega,by go_num,by rw[Es.out],_,by rw[Hw.out,World.drewN_drewN]⟩
   case measure=>simp[intOf];omega
  ·have e:k=n:=by omega
   subst e
   subst hw
   have ws:=wf_prodZ zs xs k
   go_wp2_with (first|(go_at_call 74;refine (refShift_call _ _ ws (by decide) _).mono ?_;rintro e w' ⟨rfl,rfl⟩)|(go_at_call 73;refine (rCc _ _).mono ?_;rintro e w' ⟨rfl,rfl⟩))
   go_ret2
   exact⟨rfl,_,rfl⟩
def cmpI (a b:Int):Int:=if a<b then -1 else if b<a then 1 else 0
def orI (u v:Int):Int:=if u=0 then v else u
theorem cmp64_call (a b:Int)(w:World):Calls Tryz.prog 164 #[.int .i64 a,.int .i64 b] w fun e w'=>e=.returned (.int .i64 (cmpI a b))∧w'=w:=by
 unfold cmpI
 by_cases h:a<b
 ·rw[if_pos h]
  go_enter Tryz.func164,Tryz.ntmps164
  go_wp2
  go_ret
  exact⟨rfl,rfl⟩
 ·rw[if_neg h]
  by_cases h':b<a
  ·rw[if_pos h']
   go_enter Tryz.func164,Tryz.ntmps164
   go_wp2
   go_ret
   exact⟨rfl,rfl⟩
  ·rw[if_neg h']
   go_enter Tryz.func164,Tryz.ntmps164
   go_wp2
   go_ret
   exact⟨rfl,rfl⟩
theorem cmpInt_call (a b:Int)(w:World):Calls Tryz.prog 165 #[.int .i64 a,.int .i64 b] w fun e w'=>e=.returned (.int .i64 (cmpI a b))∧w'=w:=by
 unfold cmpI
 by_cases h:a<b
 ·rw[if_pos h]
  go_enter Tryz.func165,Tryz.ntmps165
  go_wp2
  go_ret
  exact⟨rfl,rfl⟩
 ·rw[if_neg h]
  by_cases h':b<a
  ·rw[if_pos h']
   go_enter Tryz.func165,Tryz.ntmps165
   go_wp2
   go_ret
   exact⟨rfl,rfl⟩
  ·rw[if_neg h']
   go_enter Tryz.func165,Tryz.ntmps165
   go_wp2
   go_ret
   exact⟨rfl,rfl⟩
theorem or_call (b:Nat)(c:Nat)(u v:Int)(w:World)(h0:w.cell? ⟨b,0,none⟩=some (.int .i64 u))(h1:w.cell? ⟨b,1,none⟩=some (.int .i64 v)) :
  Calls Tryz.prog 163 #[.slice (some ⟨b,0,none⟩) 2 c] w fun e w'=>e=.returned (.int .i64 (orI u v))∧w'=w:=by
 unfold orI
 by_cases hu:u=0
 ·rw[if_pos hu]
  subst hu
  by_cases hv:v=0
  ·subst hv
   go_enter Tryz.func163,Tryz.ntmps163
   go_wp2
   refine wp_loop_rounds 3 ?_
   rw[rounds_succ]
   go_wp2
   rw[rounds_succ]
   go_wp2
   rw[rounds_succ]
   go_wp2
   go_ret
   exact⟨rfl,rfl⟩
  ·go_enter Tryz.func163,Tryz.ntmps163
   go_wp2
   refine wp_loop_rounds 2 ?_
   rw[rounds_succ]
   go_wp2
   rw[rounds_succ]
   go_wp2
   go_ret
   exact⟨rfl,rfl⟩
 ·rw[if_neg hu]
  go_enter Tryz.func163,Tryz.ntmps163
  go_wp2
  refine wp_loop_rounds 1 ?_
  rw[rounds_succ]
  go_wp2
  go_ret
  exact⟨rfl,rfl⟩
theorem cf_eq (xs:List Int)(i j:Nat):orI (cmpI (xs.getD j 0) (xs.getD i 0)) (cmpI i j)=cfZ xs i j:=by
 unfold orI cmpI cfZ
 repeat' split
 all_goals omega
theorem order_call (a:Option Addr)(n c:Nat)(w:World) :
  Calls Tryz.prog 157 #[.slice a n c] w fun e w'=>e=.returned (.func (.func 162) #[] #[.pointer (some ⟨w.heap.size,0,none⟩)])∧w'=w.alloc (.cells #[.slice a n c] 34):=by
 go_enter Tryz.func157,Tryz.ntmps157
 go_wp2
 go_ret
 exact⟨rfl,rfl⟩
theorem closure_call (b:Nat)(x:Addr)(n c:Nat)(xs:List Int)(i j:Nat)(hi:i<n)(hj:j<n)(w:World)(hbx:w.cell? ⟨b,0,none⟩=some (.slice (some x) n c))(h0:Reads .i64 w (some x) n xs) :
  Calls Tryz.prog 162 #[.int .i64 i,.int .i64 j,.pointer (some ⟨b,0,none⟩)] w fun e w'=>e=.returned (.int .i64 (cfZ xs i j))∧∃ o,w'=(w.alloc o).drew:=by
 have hm:=h0.max
 have ci:=h0.cell x rfl i hi
 have cj:=h0.cell x rfl j hj
 have hb:b<w.heap.size:=World.block_lt_of_cell? _ _ hbx
 rw[←cf_eq]
 obtain⟨X,eX⟩:∃ X,xs.getD i 0=X:=⟨_,rfl⟩
 obtain⟨Y,eY⟩:∃ Y,xs.getD j 0=Y:=⟨_,rfl⟩
 rw[eX] at ci ⊢
 rw[eY] at cj ⊢
 clear eX eY h0
 have k1:=fun W=>cmp64_call Y X W
 have k2:=fun W=>cmpInt_call i j W
 obtain⟨A,eA⟩:∃ A,cmpI Y X=A:=⟨_,rfl⟩
 obtain⟨B,eB⟩:∃ B,cmpI i j=B:=⟨_,rfl⟩
 rw[eA] at k1 ⊢
 rw[eB] at k2 ⊢
 clear eA eB
 go_enter Tryz.func162,Tryz.ntmps162
 go_wp2
 go_region_with (first
  | (go_at_call 164;refine (k1 _).mono ?_;rintro e W1 ⟨rfl,hw⟩;obtain rfl:=hw.symm;clear hw)
  | (go_at_call 165;refine (k2 _).mono ?_;rintro e W1 ⟨rfl,hw⟩;obtain rfl:=hw.symm;clear hw)
  | (go_at_call 163;refine (or_call _ _ A B _ (by simp) (by simp)).mono ?_;rintro e W1 ⟨rfl,hw⟩;obtain rfl:=hw.symm;clear hw))
 all_goals
  go_wp2
  go_ret
  exact⟨rfl,_,rfl⟩
theorem ahead_gt {xs:List Int}{i j:Nat}(h:xs.getD j 0<xs.getD i 0):ahead xs i j=true:=by rw[ahead_iff];exact .inl h
theorem ahead_eq {xs:List Int}{i j:Nat}(h:xs.getD i 0=xs.getD j 0)(h':i<j):ahead xs i j=true:=by rw[ahead_iff];exact .inr ⟨h,h'⟩
theorem ahead_no {xs:List Int}{i j:Nat}(h:¬xs.getD j 0<xs.getD i 0)(h':¬(xs.getD i 0=xs.getD j 0∧i<j)):¬ahead xs i j=true:=by
 rw[ahead_iff]
 rintro (e|e)
 ·exact h e
 ·exact h' e
theorem refRank_ok (a0:Option Addr)(n c0:Nat)(xs:List Int)(i:Nat)(w:World)(h0:Reads .i64 w a0 n xs)(hi:i<n) :
  Calls Tryz.prog 145 #[.slice a0 n c0,.int .i64 i] w fun e w'=>e=.returned (.int .i64 (rankTo xs n i:Nat))∧∃ m,w'=w.drewN m:=by
 have hm:=h0.max
 obtain⟨x,rfl⟩:=h0.some_ (by omega)
 have hi':¬(n:Int)≤(i:Int):=by omega
 go_enter Tryz.func145,Tryz.ntmps145
 go_wp2
 go_loopw [5,6] (fun s q wr=>∃ k:Nat,k≤n∧q=.int .i64 k∧s=.int .i64 (rankTo xs k i:Nat)∧∃ m,wr=w.drewN m) (fun _ q _=>n-(intOf q).toNat)
 case atStart=>exact⟨0,Nat.zero_le _,rfl,rfl,0,rfl⟩
 case round =>
  obtain⟨k,hk,rfl,rfl,m,hw⟩:=hrel
  have hR:=rankTo_le xs k i
  by_cases hlt:k<n
  ·have cx:wr.cell? (x.add k)=some (.int .i64 (xs.getD k 0)):=by rw[hw];exact h0.cell x rfl k hlt
   have cy:wr.cell? (x.add i)=some (.int .i64 (xs.getD i 0)):=by rw[hw];exact h0.cell x rfl i hi
   have Hw:Hid (wr=w.drewN m):=hw
   have eR:=rankTo_succ xs k i
   by_cases h1:xs.getD i 0<xs.getD k 0
   ·rw[if_pos (ahead_gt h1)] at eR
    obtain⟨R,eR'⟩:∃ R,rankTo xs k i=R:=⟨_,rfl⟩
    rw[eR'] at eR hR ⊢
    obtain⟨X,eX⟩:∃ X,xs.getD k 0=X:=⟨_,rfl⟩
    obtain⟨Y,eY⟩:∃ Y,xs.getD i 0=Y:=⟨_,rfl⟩
    rw[eX] at cx h1
    rw[eY] at cy h1
    have g1:decide (Y<X)=true:=by simp[h1]
    clear eX eY eR' hw h0
    go_wp2
    go_quiet (fail)
    go_wp2
    go_roundw
    case rel=>exact⟨k+1,by omega,by go_num,by rw[eR];go_num,_,by rw[Hw.out,World.drewN_drewN]⟩
    case measure=>simp[intOf];omega
   ·by_cases h2:xs.getD k 0=xs.getD i 0
    ·by_cases h3:k<i
     ·rw[if_pos (ahead_eq h2 h3)] at eR
      obtain⟨R,eR'⟩:∃ R,rankTo xs k i=R:=⟨_,rfl⟩
      rw[eR'] at eR hR ⊢
      rw[h2] at cx
      obtain⟨Y,eY⟩:∃ Y,xs.getD i 0=Y:=⟨_,rfl⟩
      rw[eY] at cx cy
      have g1:decide (Y<Y)=false:=by simp
      have g3:decide ((k:Int)<(i:Int))=true:=by simp;omega
      have h3':(k:Int)<(i:Int):=by omega
      clear h1 h2 eY eR' hw h0
      go_wp2
      go_quiet (fail)
      go_wp2
      go_roundw
      case rel=>exact⟨k+1,by omega,by go_num,by rw[eR];go_num,_,by rw[Hw.out,World.drewN_drewN]⟩
      case measure=>simp[intOf];omega
     ·rw[if_neg (ahead_no h1 (by omega))] at eR
      obtain⟨R,eR'⟩:∃ R,rankTo xs k i=R:=⟨_,rfl⟩
      rw[eR'] at eR hR ⊢
      rw[h2] at cx
      obtain⟨Y,eY⟩:∃ Y,xs.getD i 0=Y:=⟨_,rfl⟩
      rw[eY] at cx cy
      have g1:decide (Y<Y)=false:=by simp
      have g3:decide ((k:Int)<(i:Int))=false:=by simp;omega
      have h3':¬(k:Int)<(i:Int):=by omega
      clear h1 h2 eY eR' hw h0
      go_wp2
      go_quiet (fail)
      go_wp2
      go_roundw
      case rel=>exact⟨k+1,by omega,by go_num,by rw[eR];go_num,_,by rw[Hw.out,World.drewN_drewN]⟩
      case measure=>simp[intOf];omega
    ·rw[if_neg (ahead_no h1 (by omega))] at eR
     obtain⟨R,eR'⟩:∃ R,rankTo xs k i=R:=⟨_,rfl⟩
     rw[eR'] at eR hR ⊢
     obtain⟨X,eX⟩:∃ X,xs.getD k 0=X:=⟨_,rfl⟩
     obtain⟨Y,eY⟩:∃ Y,xs.getD i 0=Y:=⟨_,rfl⟩
     rw[eX] at cx h1 h2
     rw[eY] at cy h1 h2
     have g1:decide (Y<X)=false:=by simp;omega
     have g2:decide (X=Y)=false:=by simp[h2]
     have g2':(X==Y)=false:=by simp[h2]
     clear eX eY eR' hw h0
     go_wp2
     go_quiet (fail)
     go_wp2
     go_roundw
     case rel=>exact⟨k+1,by omega,by go_num,by rw[eR];go_num,_,by rw[Hw.out,World.drewN_drewN]⟩
     case measure=>simp[intOf];omega
  ·have e:k=n:=by omega
   subst e
   subst hw
   go_wp2
   go_ret
   exact⟨rfl,_,rfl⟩
theorem refRsqrt_call (x:Int)(w:World) :
  Calls Tryz.prog 75 #[.int .i64 x] w fun e w'=>e=.returned (.int .i64 (rsqrtZ x))∧w'=w:=by
 have cb:=cZb x
 unfold rsqrtZ
 obtain⟨c,ec⟩:∃ c,cZ x=c:=⟨_,rfl⟩
 rw[ec] at cb ⊢
 obtain⟨c0,c1⟩:=cb
 by_cases k:c<1
 ·rw[if_pos k]
  go_enter Tryz.func75,Tryz.ntmps75
  go_wp2_with (first|(go_at_call 73;refine (rCc _ _).mono ?_;rintro e w' ⟨rfl,rfl⟩))
  all_goals go_ret
  all_goals exact⟨rfl,rfl⟩
 ·rw[if_neg k]
  obtain⟨q0,q1⟩:=quot_bounds c (by omega)
  unfold rootZ
  obtain⟨R,eR⟩:∃ R,rnd (281474976710656/c) 25 0=R:=⟨_,rfl⟩
  rw[eR]
  have ER:Hid (rnd (281474976710656/c) 25 0=R):=eR
  clear eR
  go_enter Tryz.func75,Tryz.ntmps75
  go_wp2_with (first|(go_at_call 73;refine (rCc _ _).mono ?_;rintro e w' ⟨rfl,rfl⟩))
  go_loop [3,4] (fun v b=>∃ (k:Nat) (r:Int),v=.int .i64 r∧b=.int .i64 (2 ^ k/2)∧0≤r∧r+2*(2 ^ k/2)≤33554432∧rnd (281474976710656/c) k r=R) (fun _ b=>(intOf b).toNat)
  case atStart=>exact⟨25,0,rfl,rfl,by decide,by decide,ER.out⟩
  case round =>
   obtain⟨k,r,rfl,rfl,r0,r1,er⟩:=hrel
   cases k with
   | zero =>
    have e:(2:Int) ^ 0/2=0:=by decide
    rw[e]
    clear r1 ER
    have E:Hid (rnd (281474976710656/c) 0 r=R):=er
    clear er
    go_wp2
    go_ret
    exact⟨ret_int E.out,rfl⟩
   | succ k =>
    have e:(2:Int) ^ (k+1)/2=2 ^ k:=by rw[Int.pow_succ];omega
    have p:(0:Int)<2 ^ k:=Int.pow_pos (by decide)
    have er':rnd (281474976710656/c) k (if (r+2 ^ k)*(r+2 ^ k)≤(281474976710656/c) then r+2 ^ k else r)=R:=er
    rw[e] at r1 ⊢
    clear er e
    have sq:=sq_bounds (r+2 ^ k) (by omega) (by omega)
    have E:Hid (rnd (281474976710656/c) k (if (r+2 ^ k)*(r+2 ^ k)≤(281474976710656/c) then r+2 ^ k else r)=R):=er'
    clear er'
    obtain⟨B,eB⟩:∃ B,(2:Int) ^ k=B:=⟨_,rfl⟩
    rw[eB] at r1 p sq ⊢
    have EB:Hid ((2:Int) ^ k=B):=eB
    clear eB
    obtain⟨sq0,sq1⟩:=sq
    go_wp2
    ·have h:(r+B)*(r+B)≤(281474976710656/c):=by assumption
     go_round
     case rel =>
      have b:=EB.out
      have e:=E.out
      rw[b,if_pos h] at e
      exact⟨k,r+B,rfl,by rw[b],by omega,by rw[b];omega,e⟩
     case measure=>simp only[intOf];omega
    ·have h:¬(r+B)*(r+B)≤(281474976710656/c):=by omega
     go_round
     case rel =>
      have b:=EB.out
      have e:=E.out
      rw[b,if_neg h] at e
      exact⟨k,r,rfl,by rw[b],by omega,by rw[b];omega,e⟩
     case measure=>simp only[intOf];omega
end Go.Proofs.YthliomlmhfjhnaaGreat

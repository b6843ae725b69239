/- Texts put together. -/
import Derived.Test.YthliomlmhfjhnaaGreatZp0
import Derived.Test.YthliomlmhfjhnaaGreatZp3
import Derived.Test.YthliomlmhfjhnaaGreatZp4
import Derived.Test.YthliomlmhfjhnaaGreatZp5
namespace Go.Proofs.YthliomlmhfjhnaaGreat
set_option maxRecDepth 20000
set_option maxHeartbeats 16000000
open Go.ChangeShapes Go.WideShapes Go.ChangeAt Go.RowKit
set_option linter.unusedVariables false
set_option linter.unusedSimpArgs false
def QdA (a b:List Int):Nat→Int
 | 0=>0
 | k+1=>addZ (QdA a b k) (cZ (a.getD k 0)*cZ (b.getD k 0))
theorem Qd4 (a b:List Int)(k:Nat):(Lit.int .i64 (QdA a b k)).wf=true:=by
 cases k with
 | zero=>show (Lit.int .i64 0).wf=true;decide
 | succ k=>exact Qeg _ _
theorem QbI (x y:Int)(hx:-2147483648≤x∧x≤2147483647)(hy:-2147483648≤y∧y≤2147483647):-4611686018427387904≤x*y∧x*y≤4611686018427387904:=by
 have h:(x*y).natAbs≤2147483648*2147483648:=by
  rw[Int.natAbs_mul]
  exact Nat.mul_le_mul (by omega) (by omega)
 omega
def dotZ (a b:List Int)(bits:Int):Int:=cZ (Qac (QdA a b a.length) bits)
theorem Qfa (a0:Option Addr)(n c0:Nat)(zs:List Int)(a1:Option Addr)(c1:Nat)(xs:List Int)(bits:Int)(w:World)
  (h0:Reads .i8 w a0 n zs) (h1:Reads .i64 w a1 n xs) (hb:(Lit.int .i64 bits).wf=true) :
  Calls Tryz.prog 88 #[.slice a0 n c0,.slice a1 n c1,I4 bits] w fun e w'=>e=.returned (I4 (dotZ zs xs bits))∧∃ m,w'=w.drewN m:=by
 have hm:=h0.max
 have hl:zs.length=n:=h0.len
 unfold dotZ
 rw[hl]
 clear hl
 go_enter Tryz.func88,Tryz.ntmps88
 go_wp2
 go_loopw [7,12] (fun s i wr=>∃ k:Nat,k≤n∧i=I4 k∧s=I4 (QdA zs xs k)∧∃ m,wr=w.drewN m) (fun _ i _=>n-(intOf i).toNat)
 case atStart=>exact⟨0,Nat.zero_le _,rfl,rfl,0,rfl⟩
 case round =>
  obtain⟨k,hk,rfl,rfl,m,hw⟩:=hrel
  by_cases hlt:k<n
  ·obtain⟨x,rfl⟩:=h0.some_ (by omega)
   obtain⟨y,rfl⟩:=h1.some_ (by omega)
   have cx:wr.cell? (x.add k)=some (.int .i8 (zs.getD k 0)):=by rw[hw];exact h0.cell x rfl k hlt
   have cy:wr.cell? (y.add k)=some (I4 (xs.getD k 0)):=by rw[hw];exact h1.cell y rfl k hlt
   have Hw:Hid (wr=w.drewN m):=hw
   clear hw
   have wz:=h0.wf k
   have es:QdA zs xs (k+1)=addZ (QdA zs xs k) (cZ (zs.getD k 0)*cZ (xs.getD k 0)):=rfl
   have ws:=Qd4 zs xs k
   obtain⟨Z,eZ⟩:∃ Z,zs.getD k 0=Z:=⟨_,rfl⟩
   obtain⟨X,eX⟩:∃ X,xs.getD k 0=X:=⟨_,rfl⟩
   obtain⟨S,eS⟩:∃ S,QdA zs xs k=S:=⟨_,rfl⟩
   rw[eZ] at cx es wz
   rw[eX] at cy es
   rw[eS] at es ws ⊢
   have Es:Hid (QdA zs xs (k+1)=addZ S (cZ Z*cZ X)):=es
   clear eZ eX eS es
   have bz:=cZb Z
   have bx:=cZb X
   have bp:=QbI _ _ bz bx
   have wp:(Lit.int .i64 (cZ Z*cZ X)).wf=true:=WalkArith.wf_i64 ⟨by omega,by omega⟩
   have b8:-128≤Z∧Z≤127:=by simpa [Lit.wf,IntKind.min,IntKind.max,IntKind.signed,IntKind.bits] using wz
   go_wp2
   go_quiet (first|(go_at_call 114;refine Calls.quiet_of_same (cCa _ _))|(go_at_call 113;refine Calls.quiet_of_same (Qdn _ _ ws wp _)))
   go_wp2
   go_roundw
   case rel=>exact⟨k+1,by omega,by go_num,by rw[Es.out],_,by rw[Hw.out,World.drewN_drewN]⟩
   case measure=>simp[intOf];omega
  ·have e:k=n:=by omega
   subst e
   subst hw
   have ws:=Qd4 zs xs k
   go_wp2_with (first|(go_at_call 115;refine (shift_call _ _ ws hb _).mono ?_;rintro e w' ⟨rfl,rfl⟩)|(go_at_call 114;refine (cCa _ _).mono ?_;rintro e w' ⟨rfl,rfl⟩))
   go_ret
   exact⟨rfl,_,rfl⟩
def rowZ (ws:List Int)(d:Nat)(xs:List Int)(i:Nat):Int:=dotZ ((ws.drop (i*d)).take d) xs 6
theorem QfZ (a0:Option Addr)(n c0:Nat)(ws:List Int)(R:Nat)(a2:Option Addr)(d c2:Nat)(xs:List Int)(w:World)
  (h0:Reads .i8 w a0 n ws) (hc:n≤c0) (h2:Reads .i64 w a2 d xs) (hd:0<d) (hn:n=R*d) (hb:R*8≤281474976710656) :
  Calls Tryz.prog 49 #[.slice a0 n c0,I4 R,.slice a2 d c2] w fun e w'=>(∃ a c cs,e=.returned (.tuple #[.slice a R c,I4 0])∧Reads .i64 w' a R ((List.range R).map (rowZ ws d xs))∧a=some ⟨w.heap.size,0,none⟩∧c=R∧w'.ownsRow w.heap.size 2 1 (.slice a R c) R cs∧∀ j,j<R→cs[j]? = some (I4 (rowZ ws d xs j)))∧Bw w w':=by
 obtain⟨i0,hi,hz0,hz1,hz2⟩:=info_parts QaT
 have hm:=h0.max
 have hm2:=h2.max
 have hf:decide (0<d∧n%d=0∧((n/d:Nat):Int)=(R:Int))=true:=by
  subst hn
  simp[hd,Nat.mul_div_cancel R hd]
 have Hn:Hid (n=R*d):=hn
 clear hn
 have hR:(Lit.int .i64 (R:Int)).wf=true:=WalkArith.wf_i64 ⟨by omega,by omega⟩
 have kf:∀ W,Calls Tryz.prog 87 #[I4 n,I4 R,I4 d] W fun e w'=>e=.returned (.bool true)∧w'=W:=fun W=>by
  have:=Qha n d R hm hm2 hR W
  rwa [hf] at this
 clear hf
 go_enter Tryz.func49,Tryz.ntmps49
 go_wp2_with (first|(go_at_call 87;refine (kf _).mono ?_;rintro e w' ⟨rfl,h⟩;obtain rfl:=h.symm)|(at_make;refine wpList_make_full _ rfl (.tmp 19) (.tmp 19) 34 rfl w.heap.size 2 i0 (I4 0) 1 Tryz.underlying34 hi hz0 hz1 .i64 .i64 _ _ R rfl rfl rfl rfl (by rw[hz2];omega) (by unfold maxLen;omega) nL ?_;intro w1 hown hgrow))
 have hbel:Bw w w1:=bR.grown hgrow nL (fun k h=>by cases h)
 go_wp2
 go_loopw [23] (fun i wr=>∃ k:Nat,k≤R∧i=I4 k∧Bw w wr∧∃ cs,wr.ownsRow w.heap.size 2 1 (.slice (some ⟨w.heap.size,0,none⟩) R R) R cs∧∀ j,j<k→cs[j]? = some (I4 (rowZ ws d xs j))) (fun i _=>R-(intOf i).toNat)
 case atStart=>exact⟨0,Nat.zero_le _,rfl,hbel,_,hown,fun j hj=>by omega⟩
 case round =>
  obtain⟨k,hk,rfl,hbr,cs,ho,hcs⟩:=hrel
  by_cases hlt:k<R
  ·obtain⟨p,ep⟩:∃ p,k*d=p:=⟨_,rfl⟩
   have eq:(k+1)*d=p+d:=by rw[Nat.add_mul,ep];omega
   have hq:p+d≤n:=by rw[Hn.out,←eq];exact Nat.mul_le_mul_right d (by omega)
   have ip:(k:Int)*(d:Int)=(p:Int):=by rw[←ep];simp
   have iq:((k:Int)+1)*(d:Int)=((p+d:Nat):Int):=by rw[←eq];simp
   obtain⟨q,eq'⟩:∃ q,p+d=q:=⟨_,rfl⟩
   rw[eq'] at iq
   have hr0:=h0.below hbr
   have hr2:=h2.below hbr
   obtain⟨x,rfl⟩:=h0.some_ (by omega)
   have hcut:=hr0.cut p d hq
   have hlen:=oLe ho
   have cell:wr.cell? ⟨w.heap.size,k,none⟩=cs[k]?:=ho.cellAt k (by omega)
   obtain⟨u,hu⟩:∃ u,cs[k]? = some u:=⟨cs[k],by simp[hlen,hlt]⟩
   rw[hu] at cell
   have froz:=ho.frozenAt k
   have st:=fun v=>ho.stored k v
   have step:=fun v (h:v=Value.int .i64 (rowZ ws d xs k))=>set_step (F:=fun j=>Value.int .i64 (rowZ ws d xs j)) hlen hlt h hcs
   have eV:rowZ ws d xs k=dotZ ((ws.drop p).take d) xs 6:=by unfold rowZ;rw[ep]
   obtain⟨V,eV'⟩:∃ V,dotZ ((ws.drop p).take d) xs 6=V:=⟨_,rfl⟩
   rw[eV,eV'] at step
   have kp:Calls Tryz.prog 88 #[.slice (some (x.add p)) d d,.slice a2 d c2,I4 6] wr fun e w'=>e=.returned (I4 V)∧∃ m,w'=wr.drewN m:=by
    rw[←eV']
    exact Qfa _ _ _ _ _ _ _ _ _ hcut hr2 (by decide)
   have hsub:q-p=d:=by omega
   have hne:¬q=p:=by omega
   have hpq:(p:Int)≤(q:Int):=by omega
   have hqc:(q:Int)≤(c0:Int):=by omega
   have hqm:(q:Int)≤9223372036854775807:=by omega
   have R':Hid (∀ m,Bw w ((wr.drewN m).setCell ⟨w.heap.size,k,none⟩ (I4 V))∧∃ cs',((wr.drewN m).setCell ⟨w.heap.size,k,none⟩ (I4 V)).ownsRow w.heap.size 2 1 (.slice (some ⟨w.heap.size,0,none⟩) R R) R cs'∧∀ j,j<k+1→cs'[j]? = some (I4 (rowZ ws d xs j))) :=
    fun m=>⟨(bDr hbr ⟨m,rfl⟩).setCell nL _,_,(st _).1,step _ rfl⟩
   clear eq eq' ep eV eV' step st hcs ho hu hlen hr0 hr2 hbr hcut kf hown hgrow hbel h0 h2 hi hz0 hz1 hz2 hR
   go_wp2_with (go_at_call 88;refine kp.mono ?_;rintro e w' ⟨rfl,m,rfl⟩)
   go_roundw
   case rel=>exact⟨k+1,by omega,by go_num,R'.out m⟩
   case measure=>simp[intOf];omega
  ·have e:k=R:=by omega
   subst e
   have fin:=oRa (zs:=(List.range k).map (rowZ ws d xs)) ho (by simp) (fun z hz=>by obtain⟨y,_,rfl⟩:=List.mem_map.1 hz;exact wCz _) (fun j hj=>by rw[hcs j hj];simp[hj])
   have HO:=hdn (And.intro ho hcs)
   clear hcs ho
   go_wp2
   go_ret2
   exact⟨⟨_,_,_,rfl,fin,rfl,rfl,HO.out.1,HO.out.2⟩,hbr⟩
def sumZ (a b:List Int):Nat→Int
 | 0=>0
 | k+1=>addZ (sumZ a b k) (cZ (a.getD k 0)*cZ (b.getD k 0))
theorem QfC (a b:List Int)(k:Nat):(Lit.int .i64 (sumZ a b k)).wf=true:=by
 cases k with
 | zero=>show (Lit.int .i64 0).wf=true;decide
 | succ k=>exact Qeg _ _
theorem QbJ (x y:Int)(hx:-2147483648≤x∧x≤2147483647)(hy:-2147483648≤y∧y≤2147483647):-4611686018427387904≤x*y∧x*y≤4611686018427387904:=by
 have h:(x*y).natAbs≤2147483648*2147483648:=by
  rw[Int.natAbs_mul]
  exact Nat.mul_le_mul (by omega) (by omega)
 omega
def Qce (a b:List Int)(bits:Int):Int:=cZ (Qac (sumZ a b a.length) bits)
theorem QeK (a0:Option Addr)(n c0:Nat)(zs:List Int)(a1:Option Addr)(c1:Nat)(xs:List Int)(bits:Int)(w:World)
  (h0:Reads .i64 w a0 n zs) (h1:Reads .i64 w a1 n xs) (hb:(Lit.int .i64 bits).wf=true) :
  Calls Tryz.prog 150 #[.slice a0 n c0,.slice a1 n c1,I4 bits] w fun e w'=>e=.returned (I4 (Qce zs xs bits))∧∃ m,w'=w.drewN m:=by
 have hm:=h0.max
 have hl:zs.length=n:=h0.len
 unfold Qce
 rw[hl]
 clear hl
 go_enter Tryz.func150,Tryz.ntmps150
 go_wp2
 go_loopw [7,12] (fun s i wr=>∃ k:Nat,k≤n∧i=I4 k∧s=I4 (sumZ zs xs k)∧∃ m,wr=w.drewN m) (fun _ i _=>n-(intOf i).toNat)
 case atStart=>exact⟨0,Nat.zero_le _,rfl,rfl,0,rfl⟩
 case round =>
  obtain⟨k,hk,rfl,rfl,m,hw⟩:=hrel
  by_cases hlt:k<n
  ·obtain⟨x,rfl⟩:=h0.some_ (by omega)
   obtain⟨y,rfl⟩:=h1.some_ (by omega)
   have cx:wr.cell? (x.add k)=some (I4 (zs.getD k 0)):=by rw[hw];exact h0.cell x rfl k hlt
   have cy:wr.cell? (y.add k)=some (I4 (xs.getD k 0)):=by rw[hw];exact h1.cell y rfl k hlt
   have Hw:Hid (wr=w.drewN m):=hw
   clear hw
   have wz:=h0.wf k
   have es:sumZ zs xs (k+1)=addZ (sumZ zs xs k) (cZ (zs.getD k 0)*cZ (xs.getD k 0)):=rfl
   have ws:=QfC zs xs k
   obtain⟨Z,eZ⟩:∃ Z,zs.getD k 0=Z:=⟨_,rfl⟩
   obtain⟨X,eX⟩:∃ X,xs.getD k 0=X:=⟨_,rfl⟩
   obtain⟨S,eS⟩:∃ S,sumZ zs xs k=S:=⟨_,rfl⟩
   rw[eZ] at cx es wz
   rw[eX] at cy es
   rw[eS] at es ws ⊢
   have Es:Hid (sumZ zs xs (k+1)=addZ S (cZ Z*cZ X)):=es
   clear eZ eX eS es
   have bz:=cZb Z
   have bx:=cZb X
   have bp:=QbJ _ _ bz bx
   have wp:(Lit.int .i64 (cZ Z*cZ X)).wf=true:=WalkArith.wf_i64 ⟨by omega,by omega⟩
   go_wp2
   go_quiet (first|(go_at_call 114;refine Calls.quiet_of_same (cCa _ _))|(go_at_call 113;refine Calls.quiet_of_same (Qdn _ _ ws wp _)))
   go_wp2
   go_roundw
   case rel=>exact⟨k+1,by omega,by go_num,by rw[Es.out],_,by rw[Hw.out,World.drewN_drewN]⟩
   case measure=>simp[intOf];omega
  ·have e:k=n:=by omega
   subst e
   subst hw
   have ws:=QfC zs xs k
   go_wp2_with (first|(go_at_call 115;refine (shift_call _ _ ws hb _).mono ?_;rintro e w' ⟨rfl,rfl⟩)|(go_at_call 114;refine (cCa _ _).mono ?_;rintro e w' ⟨rfl,rfl⟩))
   go_ret
   exact⟨rfl,_,rfl⟩
theorem QjD (a0:Option Addr)(n0 c0:Nat)(zs:List Int)(a1:Option Addr)(n1 c1:Nat)(xs:List Int)(w:World)
  (h0:Reads .i64 w a0 n0 zs) (h1:Reads .i64 w a1 n1 xs) :
  Calls Tryz.prog 136 #[.slice a0 n0 c0,.slice a1 n1 c1] w fun e w'=>e=.returned (.tuple #[I4 (if n0=n1 then Qce zs xs 16 else 0),I4 (if n0=n1 then 0 else 21)])∧∃ m,w'=w.drewN m:=by
 by_cases e:n0=n1
 ·subst e
  simp only[if_true]
  go_enter Tryz.func136,Tryz.ntmps136
  go_wp2_with (go_at_call 150;refine (QeK _ _ _ _ _ _ _ _ _ h0 h1 (by decide)).mono ?_;rintro e w' ⟨rfl,m,rfl⟩)
  go_ret2
  exact⟨rfl,_,rfl⟩
 ·simp only[if_neg e]
  have e':((n0:Int)==(n1:Int))=false:=by simp;omega
  go_enter Tryz.func136,Tryz.ntmps136
  go_wp2_with fail
  go_ret2
  exact⟨rfl,0,rfl⟩
theorem Qlr (z:Int)(h0:-2147483648≤z)(h1:z≤2147483647):cZ z=z:=by
 unfold cZ
 rw[if_neg (by omega),if_neg (by omega)]
theorem QeH (a0:Option Addr)(n c0:Nat)(zs:List Int)(a1:Option Addr)(c1:Nat)(xs:List Int)(w:World)
  (h0:Reads .i8 w a0 n zs) (h1:Reads .i64 w a1 n xs) :
  Calls Tryz.prog 89 #[.slice a0 n c0,.slice a1 n c1] w fun e w'=>e=.returned (.tuple #[I4 (dotZ zs xs 6),I4 0])∧∃ m,w'=w.drewN m:=by
 have hm:=h0.max
 have hl:zs.length=n:=h0.len
 unfold dotZ
 rw[hl]
 clear hl
 go_enter Tryz.func89,Tryz.ntmps89
 go_wp2
 go_loopw [6,7] (fun s i wr=>∃ k:Nat,k≤n∧i=I4 k∧s=I4 (QdA zs xs k)∧∃ m,wr=w.drewN m) (fun _ i _=>n-(intOf i).toNat)
 case atStart=>exact⟨0,Nat.zero_le _,rfl,rfl,0,rfl⟩
 case round =>
  obtain⟨k,hk,rfl,rfl,m,hw⟩:=hrel
  by_cases hlt:k<n
  ·obtain⟨x,rfl⟩:=h0.some_ (by omega)
   obtain⟨y,rfl⟩:=h1.some_ (by omega)
   have cx:wr.cell? (x.add k)=some (.int .i8 (zs.getD k 0)):=by rw[hw];exact h0.cell x rfl k hlt
   have cy:wr.cell? (y.add k)=some (I4 (xs.getD k 0)):=by rw[hw];exact h1.cell y rfl k hlt
   have Hw:Hid (wr=w.drewN m):=hw
   clear hw
   have wz:=h0.wf k
   have es:QdA zs xs (k+1)=addZ (QdA zs xs k) (cZ (zs.getD k 0)*cZ (xs.getD k 0)):=rfl
   have ws:=Qd4 zs xs k
   obtain⟨Z,eZ⟩:∃ Z,zs.getD k 0=Z:=⟨_,rfl⟩
   obtain⟨X,eX⟩:∃ X,xs.getD k 0=X:=⟨_,rfl⟩
   obtain⟨S,eS⟩:∃ S,QdA zs xs k=S:=⟨_,rfl⟩
   rw[eZ] at cx es wz
   rw[eX] at cy es
   rw[eS] at es ws ⊢
   have b8:-128≤Z∧Z≤127:=by simpa [Lit.wf,IntKind.min,IntKind.max,IntKind.signed,IntKind.bits] using wz
   rw[Qlr Z (by omega) (by omega)] at es
   have Es:Hid (QdA zs xs (k+1)=addZ S (Z*cZ X)):=es
   clear eZ eX eS es
   have bz:-2147483648≤Z∧Z≤2147483647:=⟨by omega,by omega⟩
   have bx:=cZb X
   have bp:=QbI _ _ bz bx
   have wp:(Lit.int .i64 (Z*cZ X)).wf=true:=WalkArith.wf_i64 ⟨by omega,by omega⟩
   go_wp2
   go_quiet (first|(go_at_call 73;refine Calls.quiet_of_same (rCc _ _))|(go_at_call 72;refine Calls.quiet_of_same (Qbu _ _ ws wp _)))
   go_wp2
   go_roundw
   case rel=>exact⟨k+1,by omega,by go_num,by rw[Es.out],_,by rw[Hw.out,World.drewN_drewN]⟩
   case measure=>simp[intOf];omega
  ·have e:k=n:=by omega
   subst e
   subst hw
   have ws:=Qd4 zs xs k
   go_wp2_with (first|(go_at_call 74;refine (refShift_call _ _ ws (by decide) _).mono ?_;rintro e w' ⟨rfl,rfl⟩)|(go_at_call 73;refine (rCc _ _).mono ?_;rintro e w' ⟨rfl,rfl⟩))
   go_ret2
   exact⟨rfl,_,rfl⟩
theorem QeG (a0:Option Addr)(n c0:Nat)(ws:List Int)(R:Nat)(a2:Option Addr)(d c2:Nat)(xs:List Int)(w:World)
  (h0:Reads .i8 w a0 n ws) (hc:n≤c0) (h2:Reads .i64 w a2 d xs) (hd:0<d) (hn:n=R*d) (hb:R*8≤140737488355328) :
  Calls Tryz.prog 51 #[.slice a0 n c0,I4 R,.slice a2 d c2] w fun e w'=>(∃ a c,e=.returned (.tuple #[.slice a R c,I4 0])∧Reads .i64 w' a R ((List.range R).map (rowZ ws d xs))∧(∀ x,a=some x→w.heap.size≤x.block)∧R≤c)∧Bw w w':=by
 obtain⟨i0,hi,hz0,hz1,hz2⟩:=info_parts QaT
 have hm:=h0.max
 have hm2:=h2.max
 have e1:(n:Int)%(d:Int)=0:=by rw[←Int.natCast_emod,hn];simp
 have e2:(n:Int)/(d:Int)=R:=by rw[←Int.natCast_ediv,hn,Nat.mul_div_cancel R hd]
 have e3:((d:Int)==0)=false:=by simp;omega
 have Hn:Hid (n=R*d):=hn
 clear hn
 go_enter Tryz.func51,Tryz.ntmps51
 go_wp2
 clear e1 e2 e3
 go_loopw [8,9] (fun v i wr=>∃ k:Nat,k≤R∧i=I4 k∧Bw w wr∧wr.ownsRow w.heap.size 2 1 v k (gath (rowZ ws d xs) .i64 k)) (fun _ i _=>R-(intOf i).toNat)
 case atStart=>exact⟨0,Nat.zero_le _,rfl,Below.refl _ _,World.ownsRow_nil _ _ _ _⟩
 case round =>
  obtain⟨k,hk,rfl,hbr,ho⟩:=hrel
  by_cases hlt:k<R
  ·obtain⟨p,ep⟩:∃ p,k*d=p:=⟨_,rfl⟩
   have eq:(k+1)*d=p+d:=by rw[Nat.add_mul,ep];omega
   have hq:p+d≤n:=by rw[Hn.out,←eq];exact Nat.mul_le_mul_right d (by omega)
   have ip:(k:Int)*(d:Int)=(p:Int):=by rw[←ep];simp
   have iq:((k:Int)+1)*(d:Int)=((p+d:Nat):Int):=by rw[←eq];simp
   obtain⟨q,eq'⟩:∃ q,p+d=q:=⟨_,rfl⟩
   rw[eq'] at iq
   have hr0:=h0.below hbr
   have hr2:=h2.below hbr
   obtain⟨x,rfl⟩:=h0.some_ (by omega)
   have hcut:=hr0.cut p d hq
   have eV:rowZ ws d xs k=dotZ ((ws.drop p).take d) xs 6:=by unfold rowZ;rw[ep]
   obtain⟨V,eV'⟩:∃ V,dotZ ((ws.drop p).take d) xs 6=V:=⟨_,rfl⟩
   have Ev:Hid (V=rowZ ws d xs k):=by show V=_;rw[eV,eV']
   have kp:Calls Tryz.prog 89 #[.slice (some (x.add p)) d (c0-p),.slice a2 d c2] wr fun e w'=>e=.returned (.tuple #[I4 V,I4 0])∧∃ m,w'=wr.drewN m:=by
    rw[←eV']
    exact QeH _ _ _ _ _ _ _ _ hcut hr2
   have hsub:q-p=d:=by omega
   have hne:¬c0=p:=by omega
   have hpq:(p:Int)≤(q:Int):=by omega
   have hqc:(q:Int)≤(c0:Int):=by omega
   have hqm:(q:Int)≤9223372036854775807:=by omega
   have hsz:=hbr.size
   clear eq eq' ep eV eV' hr0 hr2 hcut h0 h2
   go_wp2_with (first
    | (go_at_call 89;refine kp.mono ?_;rintro e w' ⟨rfl,m,rfl⟩)
    | (at_builtin;refine wpList_append_own _ rfl (.tmp 57) (.tmp 59) 34 rfl w.heap.size 2 i0 (I4 0) 1 8 Tryz.underlying34 hi hz0 hz1 hz2 rfl (by decide) _ _ _ rfl (World.ownsRow.alloc (w:=wr.drewN m) ho _) ⟨_,0,none⟩ 1 1 [I4 V] rfl rfl (Qai _ _ _) (oOc _ _) (by unfold maxLen;omega) (by omega) (by simp;omega) ?_;intro v' w1 ho' hg _))
   go_roundw
   case rel=>exact⟨k+1,by omega,by go_num,aSt (wr:=wr.drewN m) hsz Ev.out (bDr hbr ⟨m,rfl⟩) ho ho' hg⟩
   case measure=>simp[intOf];omega
  ·have e:k=R:=by omega
   subst e
   have fin:=oRe (zs:=(List.range k).map (rowZ ws d xs)) ho (by simp) (fun z hz=>by obtain⟨y,_,rfl⟩:=List.mem_map.1 hz;exact wCz _) (fun j hj=>by rw[QaP _ _ _ _ hj];simp[hj])
   obtain⟨a,c,rfl,hr⟩:=fin
   have cp:Hid (_≤_):=QaL ho
   have fr:Hid (∀ x,a=some x→w.heap.size≤x.block):=fun x hx=>(ho.lt x.block (by rw[hx];rfl)).1
   clear ho
   go_wp2
   go_ret2
   exact⟨⟨_,_,rfl,hr,fr.out,cp.out⟩,hbr⟩
theorem Qii (a0:Option Addr)(n c0:Nat)(r:Int)(a2:Option Addr)(d c2:Nat)(w:World)(hm:n≤9223372036854775807)(hm2:d≤9223372036854775807)(hr:(Lit.int .i64 r).wf=true)
  (h:¬(0<d∧n%d=0∧((n/d:Nat):Int)=r)) :
  Calls Tryz.prog 49 #[.slice a0 n c0,I4 r,.slice a2 d c2] w fun e w'=>e=.returned (.tuple #[.slice none 0 0,I4 21])∧w'=w:=by
 have kf:∀ W,Calls Tryz.prog 87 #[I4 n,I4 r,I4 d] W fun e w'=>e=.returned (.bool false)∧w'=W:=fun W=>by
  have:=Qha n d r hm hm2 hr W
  rwa [decide_eq_false h] at this
 clear h
 go_enter Tryz.func49,Tryz.ntmps49
 go_wp2_with (go_at_call 87;refine (kf _).mono ?_;rintro e w' ⟨rfl,h⟩;obtain rfl:=h.symm)
 go_ret2
 exact⟨rfl,rfl⟩
theorem Qdy (a0:Option Addr)(n c0:Nat)(r:Int)(a2:Option Addr)(d c2:Nat)(w:World)(hm:n≤9223372036854775807)(hm2:d≤9223372036854775807)(hr:(Lit.int .i64 r).wf=true)
  (h:¬(0<d∧n%d=0∧((n/d:Nat):Int)=r)) :
  Calls Tryz.prog 51 #[.slice a0 n c0,I4 r,.slice a2 d c2] w fun e w'=>e=.returned (.tuple #[.slice none 0 0,I4 21])∧w'=w:=by
 by_cases r0:r<0
 ·clear h
  go_enter Tryz.func51,Tryz.ntmps51
  go_wp2
  go_ret2
  exact⟨rfl,rfl⟩
 by_cases d0:d=0
 ·subst d0
  clear h
  go_enter Tryz.func51,Tryz.ntmps51
  go_wp2
  go_ret2
  exact⟨rfl,rfl⟩
 have e3:((d:Int)==0)=false:=by simp;omega
 have q0:0≤(n:Int)/(d:Int):=Int.ediv_nonneg (by omega) (by omega)
 have q1:(n:Int)/(d:Int)≤n:=Int.ediv_le_self _ (by omega)
 have eq:((n/d:Nat):Int)=(n:Int)/(d:Int):=Int.natCast_ediv n d
 have er:((n%d:Nat):Int)=(n:Int)%(d:Int):=Int.natCast_emod n d
 obtain⟨q,eq'⟩:∃ q,(n:Int)/(d:Int)=q:=⟨_,rfl⟩
 obtain⟨m,er'⟩:∃ m,(n:Int)%(d:Int)=m:=⟨_,rfl⟩
 rw[eq'] at q0 q1 eq
 rw[er'] at er
 have hd0:0<(d:Int):=by omega
 by_cases m0:m=0
 ·subst m0
  have hq:(q==r)=false:=by
   simp
   intro hq
   exact h ⟨by omega,by omega,by rw[eq];exact hq⟩
  clear h eq er
  go_enter Tryz.func51,Tryz.ntmps51
  go_wp2
  go_ret2
  exact⟨rfl,rfl⟩
 ·have m0':(m==0)=false:=by simp[m0]
  clear h eq er
  go_enter Tryz.func51,Tryz.ntmps51
  go_wp2
  go_ret2
  exact⟨rfl,rfl⟩
def cmpI (a b:Int):Int:=if a<b then -1 else if b<a then 1 else 0
def orI (u v:Int):Int:=if u=0 then v else u
theorem QjH (a b:Int)(w:World):Calls Tryz.prog 164 #[I4 a,I4 b] w fun e w'=>e=.returned (I4 (cmpI a b))∧w'=w:=by
 unfold cmpI
 by_cases h:a<b
 ·rw[if_pos h]
  go_enter Tryz.func164,Tryz.ntmps164
  go_wp2
  go_ret
  exact⟨rfl,rfl⟩
 ·rw[if_neg h]
  by_cases h':b<a
  ·rw[if_pos h']
   go_enter Tryz.func164,Tryz.ntmps164
   go_wp2
   go_ret
   exact⟨rfl,rfl⟩
  ·rw[if_neg h']
   go_enter Tryz.func164,Tryz.ntmps164
   go_wp2
   go_ret
   exact⟨rfl,rfl⟩
theorem Qis (a b:Int)(w:World):Calls Tryz.prog 165 #[I4 a,I4 b] w fun e w'=>e=.returned (I4 (cmpI a b))∧w'=w:=by
 unfold cmpI
 by_cases h:a<b
 ·rw[if_pos h]
  go_enter Tryz.func165,Tryz.ntmps165
  go_wp2
  go_ret
  exact⟨rfl,rfl⟩
 ·rw[if_neg h]
  by_cases h':b<a
  ·rw[if_pos h']
   go_enter Tryz.func165,Tryz.ntmps165
   go_wp2
   go_ret
   exact⟨rfl,rfl⟩
  ·rw[if_neg h']
   go_enter Tryz.func165,Tryz.ntmps165
   go_wp2
   go_ret
   exact⟨rfl,rfl⟩
theorem Qm6 (b:Nat)(c:Nat)(u v:Int)(w:World)(h0:w.cell? ⟨b,0,none⟩=some (I4 u))(h1:w.cell? ⟨b,1,none⟩=some (I4 v)) :
  Calls Tryz.prog 163 #[.slice (some ⟨b,0,none⟩) 2 c] w fun e w'=>e=.returned (I4 (orI u v))∧w'=w:=by
 unfold orI
 by_cases hu:u=0
 ·rw[if_pos hu]
  subst hu
  by_cases hv:v=0
  ·subst hv
   go_enter Tryz.func163,Tryz.ntmps163
   go_wp2
   refine wp_loop_rounds 3 ?_
   rw[rounds_succ]
   go_wp2
   rw[rounds_succ]
   go_wp2
   rw[rounds_succ]
   go_wp2
   go_ret
   exact⟨rfl,rfl⟩
  ·go_enter Tryz.func163,Tryz.ntmps163
   go_wp2
   refine wp_loop_rounds 2 ?_
   rw[rounds_succ]
   go_wp2
   rw[rounds_succ]
   go_wp2
   go_ret
   exact⟨rfl,rfl⟩
 ·rw[if_neg hu]
  go_enter Tryz.func163,Tryz.ntmps163
  go_wp2
  refine wp_loop_rounds 1 ?_
  rw[rounds_succ]
  go_wp2
  go_ret
  exact⟨rfl,rfl⟩
theorem Qos (xs:List Int)(i j:Nat):orI (cmpI (xs.getD j 0) (xs.getD i 0)) (cmpI i j)=cfZ xs i j:=by
 unfold orI cmpI cfZ
 repeat' split
 all_goals omega
theorem Qjr (a:Option Addr)(n c:Nat)(w:World) :
  Calls Tryz.prog 157 #[.slice a n c] w fun e w'=>e=.returned (.func (.func 162) #[] #[Pt w.heap.size])∧w'=w.alloc (.cells #[.slice a n c] 34):=by
 go_enter Tryz.func157,Tryz.ntmps157
 go_wp2
 go_ret
 exact⟨rfl,rfl⟩
theorem Qhf (b:Nat)(x:Addr)(n c:Nat)(xs:List Int)(i j:Nat)(hi:i<n)(hj:j<n)(w:World)(hbx:w.cell? ⟨b,0,none⟩=some (.slice (some x) n c))(h0:Reads .i64 w (some x) n xs) :
  Calls Tryz.prog 162 #[I4 i,I4 j,Pt b] w fun e w'=>e=.returned (I4 (cfZ xs i j))∧∃ o,w'=(w.alloc o).drew:=by
 have hm:=h0.max
 have ci:=h0.cell x rfl i hi
 have cj:=h0.cell x rfl j hj
 have hb:b<w.heap.size:=World.block_lt_of_cell? _ _ hbx
 rw[←Qos]
 obtain⟨X,eX⟩:∃ X,xs.getD i 0=X:=⟨_,rfl⟩
 obtain⟨Y,eY⟩:∃ Y,xs.getD j 0=Y:=⟨_,rfl⟩
 rw[eX] at ci ⊢
 rw[eY] at cj ⊢
 clear eX eY h0
 have k1:=fun W=>QjH Y X W
 have k2:=fun W=>Qis i j W
 obtain⟨A,eA⟩:∃ A,cmpI Y X=A:=⟨_,rfl⟩
 obtain⟨B,eB⟩:∃ B,cmpI i j=B:=⟨_,rfl⟩
 rw[eA] at k1 ⊢
 rw[eB] at k2 ⊢
 clear eA eB
 go_enter Tryz.func162,Tryz.ntmps162
 go_wp2
 go_region_with (first
  | (go_at_call 164;refine (k1 _).mono ?_;rintro e W1 ⟨rfl,hw⟩;obtain rfl:=hw.symm;clear hw)
  | (go_at_call 165;refine (k2 _).mono ?_;rintro e W1 ⟨rfl,hw⟩;obtain rfl:=hw.symm;clear hw)
  | (go_at_call 163;refine (Qm6 _ _ A B _ (by simp) (by simp)).mono ?_;rintro e W1 ⟨rfl,hw⟩;obtain rfl:=hw.symm;clear hw))
 all_goals
  go_wp2
  go_ret
  exact⟨rfl,_,rfl⟩
theorem QmE {xs:List Int}{i j:Nat}(h:xs.getD j 0<xs.getD i 0):ahead xs i j=true:=by rw[QbZ];exact .inl h
theorem QmF {xs:List Int}{i j:Nat}(h:xs.getD i 0=xs.getD j 0)(h':i<j):ahead xs i j=true:=by rw[QbZ];exact .inr ⟨h,h'⟩
theorem Qi1 {xs:List Int}{i j:Nat}(h:¬xs.getD j 0<xs.getD i 0)(h':¬(xs.getD i 0=xs.getD j 0∧i<j)):¬ahead xs i j=true:=by
 rw[QbZ]
 rintro (e|e)
 ·exact h e
 ·exact h' e
theorem Qji (a0:Option Addr)(n c0:Nat)(xs:List Int)(i:Nat)(w:World)(h0:Reads .i64 w a0 n xs)(hi:i<n) :
  Calls Tryz.prog 145 #[.slice a0 n c0,I4 i] w fun e w'=>e=.returned (I4 (rankTo xs n i:Nat))∧∃ m,w'=w.drewN m:=by
 have hm:=h0.max
 obtain⟨x,rfl⟩:=h0.some_ (by omega)
 have hi':¬(n:Int)≤(i:Int):=by omega
 go_enter Tryz.func145,Tryz.ntmps145
 go_wp2
 go_loopw [5,6] (fun s q wr=>∃ k:Nat,k≤n∧q=I4 k∧s=I4 (rankTo xs k i:Nat)∧∃ m,wr=w.drewN m) (fun _ q _=>n-(intOf q).toNat)
 case atStart=>exact⟨0,Nat.zero_le _,rfl,rfl,0,rfl⟩
 case round =>
  obtain⟨k,hk,rfl,rfl,m,hw⟩:=hrel
  have hR:=QgR xs k i
  by_cases hlt:k<n
  ·have cx:wr.cell? (x.add k)=some (I4 (xs.getD k 0)):=by rw[hw];exact h0.cell x rfl k hlt
   have cy:wr.cell? (x.add i)=some (I4 (xs.getD i 0)):=by rw[hw];exact h0.cell x rfl i hi
   have Hw:Hid (wr=w.drewN m):=hw
   have eR:=Qib xs k i
   by_cases h1:xs.getD i 0<xs.getD k 0
   ·rw[if_pos (QmE h1)] at eR
    obtain⟨R,eR'⟩:∃ R,rankTo xs k i=R:=⟨_,rfl⟩
    rw[eR'] at eR hR ⊢
    obtain⟨X,eX⟩:∃ X,xs.getD k 0=X:=⟨_,rfl⟩
    obtain⟨Y,eY⟩:∃ Y,xs.getD i 0=Y:=⟨_,rfl⟩
    rw[eX] at cx h1
    rw[eY] at cy h1
    have g1:decide (Y<X)=true:=by simp[h1]
    clear eX eY eR' hw h0
    go_wp2
    go_quiet (fail)
    go_wp2
    go_roundw
    case rel=>exact⟨k+1,by omega,by go_num,by rw[eR];go_num,_,by rw[Hw.out,World.drewN_drewN]⟩
    case measure=>simp[intOf];omega
   ·by_cases h2:xs.getD k 0=xs.getD i 0
    ·by_cases h3:k<i
     ·rw[if_pos (QmF h2 h3)] at eR
      obtain⟨R,eR'⟩:∃ R,rankTo xs k i=R:=⟨_,rfl⟩
      rw[eR'] at eR hR ⊢
      rw[h2] at cx
      obtain⟨Y,eY⟩:∃ Y,xs.getD i 0=Y:=⟨_,rfl⟩
      rw[eY] at cx cy
      have g1:decide (Y<Y)=false:=by simp
      have g3:decide ((k:Int)<(i:Int))=true:=by simp;omega
      have h3':(k:Int)<(i:Int):=by omega
      clear h1 h2 eY eR' hw h0
      go_wp2
      go_quiet (fail)
      go_wp2
      go_roundw
      case rel=>exact⟨k+1,by omega,by go_num,by rw[eR];go_num,_,by rw[Hw.out,World.drewN_drewN]⟩
      case measure=>simp[intOf];omega
     ·rw[if_neg (Qi1 h1 (by omega))] at eR
      obtain⟨R,eR'⟩:∃ R,rankTo xs k i=R:=⟨_,rfl⟩
      rw[eR'] at eR hR ⊢
      rw[h2] at cx
      obtain⟨Y,eY⟩:∃ Y,xs.getD i 0=Y:=⟨_,rfl⟩
      rw[eY] at cx cy
      have g1:decide (Y<Y)=false:=by simp
      have g3:decide ((k:Int)<(i:Int))=false:=by simp;omega
      have h3':¬(k:Int)<(i:Int):=by omega
      clear h1 h2 eY eR' hw h0
      go_wp2
      go_quiet (fail)
      go_wp2
      go_roundw
      case rel=>exact⟨k+1,by omega,by go_num,by rw[eR];go_num,_,by rw[Hw.out,World.drewN_drewN]⟩
      case measure=>simp[intOf];omega
    ·rw[if_neg (Qi1 h1 (by omega))] at eR
     obtain⟨R,eR'⟩:∃ R,rankTo xs k i=R:=⟨_,rfl⟩
     rw[eR'] at eR hR ⊢
     obtain⟨X,eX⟩:∃ X,xs.getD k 0=X:=⟨_,rfl⟩
     obtain⟨Y,eY⟩:∃ Y,xs.getD i 0=Y:=⟨_,rfl⟩
     rw[eX] at cx h1 h2
     rw[eY] at cy h1 h2
     have g1:decide (Y<X)=false:=by simp;omega
     have g2:decide (X=Y)=false:=by simp[h2]
     have g2':(X==Y)=false:=by simp[h2]
     clear eX eY eR' hw h0
     go_wp2
     go_quiet (fail)
     go_wp2
     go_roundw
     case rel=>exact⟨k+1,by omega,by go_num,by rw[eR];go_num,_,by rw[Hw.out,World.drewN_drewN]⟩
     case measure=>simp[intOf];omega
  ·have e:k=n:=by omega
   subst e
   subst hw
   go_wp2
   go_ret
   exact⟨rfl,_,rfl⟩
theorem QfK (a0:Option Addr)(n c0:Nat)(zs:List Int)(a1:Option Addr)(c1:Nat)(xs:List Int)(w:World)
  (h0:Reads .i64 w a0 n zs) (h1:Reads .i64 w a1 n xs) :
  Calls Tryz.prog 127 #[.slice a0 n c0,.slice a1 n c1] w fun e w'=>e=.returned (.tuple #[I4 (Qce zs xs 16),I4 0])∧∃ m,w'=w.drewN m:=by
 have hm:=h0.max
 have hl:zs.length=n:=h0.len
 unfold Qce
 rw[hl]
 clear hl
 go_enter Tryz.func127,Tryz.ntmps127
 go_wp2
 go_loopw [6,7] (fun s i wr=>∃ k:Nat,k≤n∧i=I4 k∧s=I4 (sumZ zs xs k)∧∃ m,wr=w.drewN m) (fun _ i _=>n-(intOf i).toNat)
 case atStart=>exact⟨0,Nat.zero_le _,rfl,rfl,0,rfl⟩
 case round =>
  obtain⟨k,hk,rfl,rfl,m,hw⟩:=hrel
  by_cases hlt:k<n
  ·obtain⟨x,rfl⟩:=h0.some_ (by omega)
   obtain⟨y,rfl⟩:=h1.some_ (by omega)
   have cx:wr.cell? (x.add k)=some (I4 (zs.getD k 0)):=by rw[hw];exact h0.cell x rfl k hlt
   have cy:wr.cell? (y.add k)=some (I4 (xs.getD k 0)):=by rw[hw];exact h1.cell y rfl k hlt
   have Hw:Hid (wr=w.drewN m):=hw
   clear hw
   have wz:=h0.wf k
   have es:sumZ zs xs (k+1)=addZ (sumZ zs xs k) (cZ (zs.getD k 0)*cZ (xs.getD k 0)):=rfl
   have ws:=QfC zs xs k
   obtain⟨Z,eZ⟩:∃ Z,zs.getD k 0=Z:=⟨_,rfl⟩
   obtain⟨X,eX⟩:∃ X,xs.getD k 0=X:=⟨_,rfl⟩
   obtain⟨S,eS⟩:∃ S,sumZ zs xs k=S:=⟨_,rfl⟩
   rw[eZ] at cx es wz
   rw[eX] at cy es
   rw[eS] at es ws ⊢
   have Es:Hid (sumZ zs xs (k+1)=addZ S (cZ Z*cZ X)):=es
   clear eZ eX eS es
   have bz:-2147483648≤cZ Z∧cZ Z≤2147483647:=cZb Z
   have bx:=cZb X
   have bp:=QbJ _ _ bz bx
   have wp:(Lit.int .i64 (cZ Z*cZ X)).wf=true:=WalkArith.wf_i64 ⟨by omega,by omega⟩
   go_wp2
   go_quiet (first|(go_at_call 73;refine Calls.quiet_of_same (rCc _ _))|(go_at_call 72;refine Calls.quiet_of_same (Qbu _ _ ws wp _)))
   go_wp2
   go_roundw
   case rel=>exact⟨k+1,by omega,by go_num,by rw[Es.out],_,by rw[Hw.out,World.drewN_drewN]⟩
   case measure=>simp[intOf];omega
  ·have e:k=n:=by omega
   subst e
   subst hw
   have ws:=QfC zs xs k
   go_wp2_with (first|(go_at_call 74;refine (refShift_call _ _ ws (by decide) _).mono ?_;rintro e w' ⟨rfl,rfl⟩)|(go_at_call 73;refine (rCc _ _).mono ?_;rintro e w' ⟨rfl,rfl⟩))
   go_ret2
   exact⟨rfl,_,rfl⟩
theorem QfL (a0:Option Addr)(n0 c0:Nat)(zs:List Int)(a1:Option Addr)(n1 c1:Nat)(xs:List Int)(w:World)
  (h0:Reads .i64 w a0 n0 zs) (h1:Reads .i64 w a1 n1 xs) :
  Calls Tryz.prog 127 #[.slice a0 n0 c0,.slice a1 n1 c1] w fun e w'=>e=.returned (.tuple #[I4 (if n0=n1 then Qce zs xs 16 else 0),I4 (if n0=n1 then 0 else 21)])∧∃ m,w'=w.drewN m:=by
 by_cases e:n0=n1
 ·subst e
  simp only[if_true]
  exact QfK _ _ _ _ _ _ _ _ h0 h1
 ·simp only[if_neg e]
  have e':((n0:Int)==(n1:Int))=false:=by simp;omega
  go_enter Tryz.func127,Tryz.ntmps127
  go_wp2_with fail
  go_ret2
  exact⟨rfl,0,rfl⟩
end Go.Proofs.YthliomlmhfjhnaaGreat

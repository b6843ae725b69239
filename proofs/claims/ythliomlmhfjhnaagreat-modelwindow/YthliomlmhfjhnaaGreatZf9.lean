/- Texts put together. -/
import Derived.Test.YthliomlmhfjhnaaGreatRows
import Derived.Test.YthliomlmhfjhnaaGreatZf0
import Derived.Test.YthliomlmhfjhnaaGreatZf4
namespace Go.Proofs.YthliomlmhfjhnaaGreat
set_option maxRecDepth 20000
set_option maxHeartbeats 16000000
open Go.ChangeShapes Go.WideShapes Go.ChangeAt Go.RowKit
set_option linter.unusedVariables false
set_option linter.unusedSimpArgs false
section
def prodZ (a b:List Int):Nat→Int
 | 0=>0
 | k+1=>addZ (prodZ a b k) (clampZ (a.getD k 0)*clampZ (b.getD k 0))
theorem wf_prodZ (a b:List Int)(k:Nat):(Lit.int .i64 (prodZ a b k)).wf=true:=by
 cases k with
 | zero=>show (Lit.int .i64 0).wf=true;decide
 | succ k=>exact wf_addZ _ _
theorem prodM_bounds (x y:Int)(hx:-2147483648≤x∧x≤2147483647)(hy:-2147483648≤y∧y≤2147483647):-4611686018427387904≤x*y∧x*y≤4611686018427387904:=by
 have h:(x*y).natAbs≤2147483648*2147483648:=by
  rw[Int.natAbs_mul]
  exact Nat.mul_le_mul (by omega) (by omega)
 omega
def dotZ (a b:List Int)(bits:Int):Int:=clampZ (shiftZ (prodZ a b a.length) bits)
theorem products8_call (a0:Option Addr)(n c0:Nat)(zs:List Int)(a1:Option Addr)(c1:Nat)(xs:List Int)(bits:Int)(w:World)
  (h0:Reads .i8 w a0 n zs) (h1:Reads .i64 w a1 n xs) (hb:(Lit.int .i64 bits).wf=true) :
  Calls Tryz.prog 88 #[.slice a0 n c0,.slice a1 n c1,.int .i64 bits] w fun e w'=>e=.returned (.int .i64 (dotZ zs xs bits))∧∃ m,w'=w.drewN m:=by
 have hm:=h0.max
 have hl:zs.length=n:=h0.len
 unfold dotZ
 rw[hl]
 clear hl
 go_enter Tryz.func88,Tryz.ntmps88
 go_wp2
 go_loopw [7,12] (fun s i wr=>∃ k:Nat,k≤n∧i=.int .i64 k∧s=.int .i64 (prodZ zs xs k)∧∃ m,wr=w.drewN m) (fun _ i _=>n-(intOf i).toNat)
 case atStart=>exact⟨0,Nat.zero_le _,rfl,rfl,0,rfl⟩
 case round =>
  obtain⟨k,hk,rfl,rfl,m,hw⟩:=hrel
  by_cases hlt:k<n
  ·obtain⟨x,rfl⟩:=h0.some_ (by omega)
   obtain⟨y,rfl⟩:=h1.some_ (by omega)
   have cx:wr.cell? (x.add k)=some (.int .i8 (zs.getD k 0)):=by rw[hw];exact h0.cell x rfl k hlt
   have cy:wr.cell? (y.add k)=some (.int .i64 (xs.getD k 0)):=by rw[hw];exact h1.cell y rfl k hlt
   have Hw:Hid (wr=w.drewN m):=hw
   clear hw
   have wz:=h0.wf k
   have es:prodZ zs xs (k+1)=addZ (prodZ zs xs k) (clampZ (zs.getD k 0)*clampZ (xs.getD k 0)):=rfl
   have ws:=wf_prodZ zs xs k
   obtain⟨Z,eZ⟩:∃ Z,zs.getD k 0=Z:=⟨_,rfl⟩
   obtain⟨X,eX⟩:∃ X,xs.getD k 0=X:=⟨_,rfl⟩
   obtain⟨S,eS⟩:∃ S,prodZ zs xs k=S:=⟨_,rfl⟩
   rw[eZ] at cx es wz
   rw[eX] at cy es
   rw[eS] at es ws ⊢
   have Es:Hid (prodZ zs xs (k+1)=addZ S (clampZ Z*clampZ X)):=es
   clear eZ eX eS es
   have bz:=clampZ_bounds Z
   have bx:=clampZ_bounds X
   have bp:=prodM_bounds _ _ bz bx
   have wp:(Lit.int .i64 (clampZ Z*clampZ X)).wf=true:=WalkArith.wf_i64 ⟨by omega,by omega⟩
   have b8:-128≤Z∧Z≤127:=by simpa [Lit.wf,IntKind.min,IntKind.max,IntKind.signed,IntKind.bits] using wz
   go_wp2
   go_quiet (first|(go_at_call 114;refine Calls.quiet_of_same (clamp_call _ _))|(go_at_call 113;refine Calls.quiet_of_same (add_call _ _ ws wp _)))
   go_wp2
   go_roundw
   case rel=>exact⟨k+1,by omega,by go_num,by rw[Es.out],_,by rw[Hw.out,World.drewN_drewN]⟩
   case measure=>simp[intOf];omega
  ·have e:k=n:=by omega
   subst e
   subst hw
   have ws:=wf_prodZ zs xs k
   go_wp2_with (first|(go_at_call 115;refine (shift_call _ _ ws hb _).mono ?_;rintro e w' ⟨rfl,rfl⟩)|(go_at_call 114;refine (clamp_call _ _).mono ?_;rintro e w' ⟨rfl,rfl⟩))
   go_ret
   exact⟨rfl,_,rfl⟩
end
section
def rowZ (ws:List Int)(d:Nat)(xs:List Int)(i:Nat):Int:=dotZ ((ws.drop (i*d)).take d) xs 6
theorem mat_fits (a0:Option Addr)(n c0:Nat)(ws:List Int)(R:Nat)(a2:Option Addr)(d c2:Nat)(xs:List Int)(w:World)
  (h0:Reads .i8 w a0 n ws) (hc:n≤c0) (h2:Reads .i64 w a2 d xs) (hd:0<d) (hn:n=R*d) (hb:R*8≤281474976710656) :
  Calls Tryz.prog 49 #[.slice a0 n c0,.int .i64 R,.slice a2 d c2] w fun e w'=>(∃ a c cs,e=.returned (.tuple #[.slice a R c,.int .i64 0])∧Reads .i64 w' a R ((List.range R).map (rowZ ws d xs))∧a=some ⟨w.heap.size,0,none⟩∧c=R∧w'.ownsRow w.heap.size 2 1 (.slice a R c) R cs∧∀ j,j<R→cs[j]? = some (.int .i64 (rowZ ws d xs j)))∧Below w.heap.size w w':=by
 obtain⟨i0,hi,hz0,hz1,hz2⟩:=info_parts info2
 have hm:=h0.max
 have hm2:=h2.max
 have hf:decide (0<d∧n%d=0∧((n/d:Nat):Int)=(R:Int))=true:=by
  subst hn
  simp[hd,Nat.mul_div_cancel R hd]
 have Hn:Hid (n=R*d):=hn
 clear hn
 have hR:(Lit.int .i64 (R:Int)).wf=true:=WalkArith.wf_i64 ⟨by omega,by omega⟩
 have kf:∀ W,Calls Tryz.prog 87 #[.int .i64 n,.int .i64 R,.int .i64 d] W fun e w'=>e=.returned (.bool true)∧w'=W:=fun W=>by
  have:=fits_call n d R hm hm2 hR W
  rwa [hf] at this
 clear hf
 go_enter Tryz.func49,Tryz.ntmps49
 go_wp2_with (first|(go_at_call 87;refine (kf _).mono ?_;rintro e w' ⟨rfl,h⟩;obtain rfl:=h.symm)|(at_make;refine wpList_make_full _ rfl (.tmp 19) (.tmp 19) 34 rfl w.heap.size 2 i0 (.int .i64 0) 1 Tryz.underlying34 hi hz0 hz1 .i64 .i64 _ _ R rfl rfl rfl rfl (by rw[hz2];omega) (by unfold maxLen;omega) (Nat.le_refl _) ?_;intro w1 hown hgrow))
 have hbel:Below w.heap.size w w1:=(Below.refl _ _).grown hgrow (Nat.le_refl _) (fun k h=>by cases h)
 go_wp2
 go_loopw [23] (fun i wr=>∃ k:Nat,k≤R∧i=.int .i64 k∧Below w.heap.size w wr∧∃ cs,wr.ownsRow w.heap.size 2 1 (.slice (some ⟨w.heap.size,0,none⟩) R R) R cs∧∀ j,j<k→cs[j]? = some (.int .i64 (rowZ ws d xs j))) (fun i _=>R-(intOf i).toNat)
 case atStart=>exact⟨0,Nat.zero_le _,rfl,hbel,_,hown,fun j hj=>by omega⟩
 case round =>
  obtain⟨k,hk,rfl,hbr,cs,ho,hcs⟩:=hrel
  by_cases hlt:k<R
  ·obtain⟨p,ep⟩:∃ p,k*d=p:=⟨_,rfl⟩
   have eq:(k+1)*d=p+d:=by rw[Nat.add_mul,ep];omega
   have hq:p+d≤n:=by rw[Hn.out,←eq];exact Nat.mul_le_mul_right d (by omega)
   have ip:(k:Int)*(d:Int)=(p:Int):=by rw[←ep];simp
   have iq:((k:Int)+1)*(d:Int)=((p+d:Nat):Int):=by rw[←eq];simp
   obtain⟨q,eq'⟩:∃ q,p+d=q:=⟨_,rfl⟩
   rw[eq'] at iq
   have hr0:=h0.below hbr
   have hr2:=h2.below hbr
   obtain⟨x,rfl⟩:=h0.some_ (by omega)
   have hcut:=hr0.cut p d hq
   have hlen:=own_length ho
   have cell:wr.cell? ⟨w.heap.size,k,none⟩=cs[k]?:=ho.cellAt k (by omega)
   obtain⟨u,hu⟩:∃ u,cs[k]? = some u:=⟨cs[k],by simp[hlen,hlt]⟩
   rw[hu] at cell
   have froz:=ho.frozenAt k
   have st:=fun v=>ho.stored k v
   have step:=fun v (h:v=Value.int .i64 (rowZ ws d xs k))=>set_step (F:=fun j=>Value.int .i64 (rowZ ws d xs j)) hlen hlt h hcs
   have eV:rowZ ws d xs k=dotZ ((ws.drop p).take d) xs 6:=by unfold rowZ;rw[ep]
   obtain⟨V,eV'⟩:∃ V,dotZ ((ws.drop p).take d) xs 6=V:=⟨_,rfl⟩
   rw[eV,eV'] at step
   have kp:Calls Tryz.prog 88 #[.slice (some (x.add p)) d d,.slice a2 d c2,.int .i64 6] wr fun e w'=>e=.returned (.int .i64 V)∧∃ m,w'=wr.drewN m:=by
    rw[←eV']
    exact products8_call _ _ _ _ _ _ _ _ _ hcut hr2 (by decide)
   have hsub:q-p=d:=by omega
   have hne:¬q=p:=by omega
   have hpq:(p:Int)≤(q:Int):=by omega
   have hqc:(q:Int)≤(c0:Int):=by omega
   have hqm:(q:Int)≤9223372036854775807:=by omega
   have R':Hid (∀ m,Below w.heap.size w ((wr.drewN m).setCell ⟨w.heap.size,k,none⟩ (.int .i64 V))∧∃ cs',((wr.drewN m).setCell ⟨w.heap.size,k,none⟩ (.int .i64 V)).ownsRow w.heap.size 2 1 (.slice (some ⟨w.heap.size,0,none⟩) R R) R cs'∧∀ j,j<k+1→cs'[j]? = some (.int .i64 (rowZ ws d xs j))) :=
    fun m=>⟨(below_drew hbr ⟨m,rfl⟩).setCell (Nat.le_refl _) _,_,(st _).1,step _ rfl⟩
   clear eq eq' ep eV eV' step st hcs ho hu hlen hr0 hr2 hbr hcut kf hown hgrow hbel h0 h2 hi hz0 hz1 hz2 hR
   go_wp2_with (go_at_call 88;refine kp.mono ?_;rintro e w' ⟨rfl,m,rfl⟩)
   go_roundw
   case rel=>exact⟨k+1,by omega,by go_num,R'.out m⟩
   case measure=>simp[intOf];omega
  ·have e:k=R:=by omega
   subst e
   have fin:=own_reads_at (zs:=(List.range k).map (rowZ ws d xs)) ho (by simp) (fun z hz=>by obtain⟨y,_,rfl⟩:=List.mem_map.1 hz;exact wf_clampZ _) (fun j hj=>by rw[hcs j hj];simp[hj])
   have HO:=hdn (And.intro ho hcs)
   clear hcs ho
   go_wp2
   go_ret2
   exact⟨⟨_,_,_,rfl,fin,rfl,rfl,HO.out.1,HO.out.2⟩,hbr⟩
end
section
def rnd (n:Int):Nat→Int→Int
 | 0,r=>r
 | k+1,r=>rnd n k (if (r+2 ^ k)*(r+2 ^ k)≤n then r+2 ^ k else r)
theorem rnd_spec (n:Int):∀ (k:Nat) (r:Int),0≤r→r*r≤n→n<(r+2 ^ k)*(r+2 ^ k)→0≤rnd n k r∧rnd n k r*rnd n k r≤n∧n<(rnd n k r+1)*(rnd n k r+1)
 | 0,r,h0,h1,h2=>by
  unfold rnd
  exact⟨h0,h1,by simpa using h2⟩
 | k+1,r,h0,h1,h2=>by
  have p:(0:Int)<2 ^ k:=Int.pow_pos (by decide)
  rw[Int.pow_succ] at h2
  unfold rnd
  split
  ·rename_i h
   refine rnd_spec n k _ (by omega) h ?_
   have e:r+2 ^ k+2 ^ k=r+2 ^ k*2:=by omega
   rw[e];exact h2
  ·rename_i h
   exact rnd_spec n k _ h0 h1 (by omega)
def rootZ (n:Int):Int:=rnd n 25 0
theorem rootZ_spec (n:Int)(h0:0≤n)(h1:n≤281474976710656):0≤rootZ n∧rootZ n*rootZ n≤n∧n<(rootZ n+1)*(rootZ n+1) :=
 rnd_spec n 25 0 (by decide) (by omega) (by omega)
theorem sq_bounds (a:Int)(h0:0≤a)(h1:a≤33554432):0≤a*a∧a*a≤1125899906842624:=by
 refine⟨Int.mul_nonneg h0 h0,?_⟩
 have:=Int.mul_le_mul h1 h1 h0 (by decide)
 omega
theorem root_call (n:Int)(h0:0≤n)(h1:n≤281474976710656)(w:World) :
  Calls Tryz.prog 124 #[.int .i64 n] w fun e w'=>e=.returned (.int .i64 (rootZ n))∧w'=w:=by
 unfold rootZ
 obtain⟨R,eR⟩:∃ R,rnd n 25 0=R:=⟨_,rfl⟩
 rw[eR]
 have ER:Hid (rnd n 25 0=R):=eR
 clear eR
 go_enter Tryz.func124,Tryz.ntmps124
 go_wp2
 go_loop [3,4] (fun v b=>∃ (k:Nat) (r:Int),v=.int .i64 r∧b=.int .i64 (2 ^ k/2)∧0≤r∧r+2*(2 ^ k/2)≤33554432∧rnd n k r=R) (fun _ b=>(intOf b).toNat)
 case atStart=>exact⟨25,0,rfl,rfl,by decide,by decide,ER.out⟩
 case round =>
  obtain⟨k,r,rfl,rfl,r0,r1,er⟩:=hrel
  cases k with
  | zero =>
   have e:(2:Int) ^ 0/2=0:=by decide
   rw[e]
   clear r1 ER
   have E:Hid (rnd n 0 r=R):=er
   clear er
   go_wp2
   go_ret
   exact⟨ret_int E.out,rfl⟩
  | succ k =>
   have e:(2:Int) ^ (k+1)/2=2 ^ k:=by rw[Int.pow_succ];omega
   have p:(0:Int)<2 ^ k:=Int.pow_pos (by decide)
   have er':rnd n k (if (r+2 ^ k)*(r+2 ^ k)≤n then r+2 ^ k else r)=R:=er
   rw[e] at r1 ⊢
   clear er e
   have sq:=sq_bounds (r+2 ^ k) (by omega) (by omega)
   have E:Hid (rnd n k (if (r+2 ^ k)*(r+2 ^ k)≤n then r+2 ^ k else r)=R):=er'
   clear er'
   obtain⟨B,eB⟩:∃ B,(2:Int) ^ k=B:=⟨_,rfl⟩
   rw[eB] at r1 p sq ⊢
   have EB:Hid ((2:Int) ^ k=B):=eB
   clear eB
   obtain⟨sq0,sq1⟩:=sq
   go_wp2
   ·have h:(r+B)*(r+B)≤n:=by assumption
    go_round
    case rel =>
     have b:=EB.out
     have e:=E.out
     rw[b,if_pos h] at e
     exact⟨k,r+B,rfl,by rw[b],by omega,by rw[b];omega,e⟩
    case measure=>simp only[intOf];omega
   ·have h:¬(r+B)*(r+B)≤n:=by omega
    go_round
    case rel =>
     have b:=EB.out
     have e:=E.out
     rw[b,if_neg h] at e
     exact⟨k,r,rfl,by rw[b],by omega,by rw[b];omega,e⟩
    case measure=>simp only[intOf];omega
def rsqrtZ (x:Int):Int:=if clampZ x<1 then 2147483647 else rootZ (281474976710656/clampZ x)
theorem quot_bounds (c:Int)(h:1≤c):0≤281474976710656/c∧281474976710656/c≤281474976710656 :=
 ⟨Int.ediv_nonneg (by decide) (by omega),Int.ediv_le_self _ (by decide)⟩
theorem rsqrt_call (x:Int)(w:World) :
  Calls Tryz.prog 101 #[.int .i64 x] w fun e w'=>e=.returned (.int .i64 (rsqrtZ x))∧w'=w:=by
 have cb:=clampZ_bounds x
 unfold rsqrtZ
 obtain⟨c,ec⟩:∃ c,clampZ x=c:=⟨_,rfl⟩
 rw[ec] at cb ⊢
 obtain⟨c0,c1⟩:=cb
 by_cases k:c<1
 ·rw[if_pos k]
  go_enter Tryz.func101,Tryz.ntmps101
  go_wp2_with (first|(go_at_call 114;refine (clamp_call _ _).mono ?_;rintro e w' ⟨rfl,rfl⟩)|(go_at_call 124;refine (root_call _ (by omega) (by omega) _).mono ?_;rintro e w' ⟨rfl,rfl⟩))
  all_goals go_ret
  all_goals exact⟨rfl,rfl⟩
 ·rw[if_neg k]
  obtain⟨q0,q1⟩:=quot_bounds c (by omega)
  go_enter Tryz.func101,Tryz.ntmps101
  go_wp2_with (first|(go_at_call 114;refine (clamp_call _ _).mono ?_;rintro e w' ⟨rfl,rfl⟩)|(go_at_call 124;refine (root_call _ (by omega) (by omega) _).mono ?_;rintro e w' ⟨rfl,rfl⟩))
  all_goals go_ret
  all_goals exact⟨rfl,rfl⟩
end
section
theorem rest16 (n:Int):(n.tmod 16+16).tmod 16=n%16∧-16<n.tmod 16∧n.tmod 16<16:=by
 have a:=Int.tmod_eq_emod (a:=n) (b:=16)
 have b:-16<n.tmod 16∧n.tmod 16<16:=by
  rw[a];split<;>omega
 refine⟨?_,b⟩
 rw[Int.tmod_eq_emod_of_nonneg (by omega),a]
 split<;>omega
theorem place_call (n:Int)(w:World) :
  Calls Tryz.prog 154 #[.int .i64 n] w fun e w'=>e=.returned (.int .i64 (placeZ n))∧w'=w:=by
 obtain⟨b,c,d⟩:=rest16 n
 have e:Hid ((n.tmod 16+16).tmod 16=n%16):=b
 clear b
 go_enter Tryz.func154,Tryz.ntmps154
 go_wp2
 all_goals go_ret
 all_goals (refine⟨ret_int ?_,rfl⟩;unfold placeZ;have b:=e.out;rw[Int.tmod_eq_emod_of_nonneg (by omega)] at b;exact b)
theorem cos_call (n:Int)(w:World) :
  Calls Tryz.prog 146 #[.int .i64 n] w fun e w'=>e=.returned (.int .i64 (cosZ n))∧Below w.heap.size w w':=by
 have p0:0≤placeZ n∧placeZ n<16:=by unfold placeZ;omega
 unfold cosZ
 generalize hp:placeZ n=p at *
 go_enter Tryz.func146,Tryz.ntmps146
 go_wp2_with (go_at_call 154;refine (place_call _ _).mono ?_;rintro e w' ⟨rfl,rfl⟩)
 go_ret
 exact⟨tab_get tabC _ _,bNw (Below.refl _ w) _⟩
theorem sin_call (n:Int)(w:World) :
  Calls Tryz.prog 147 #[.int .i64 n] w fun e w'=>e=.returned (.int .i64 (sinZ n))∧Below w.heap.size w w':=by
 have p0:0≤placeZ n∧placeZ n<16:=by unfold placeZ;omega
 unfold sinZ
 generalize hp:placeZ n=p at *
 go_enter Tryz.func147,Tryz.ntmps147
 go_wp2_with (go_at_call 154;refine (place_call _ _).mono ?_;rintro e w' ⟨rfl,rfl⟩)
 go_ret
 exact⟨tab_get tabS _ _,bNw (Below.refl _ w) _⟩
end
section
def turnA (a b n:Int):Int:=clampZ (mulZ a (cosZ n)-mulZ b (sinZ n))
def turnB (a b n:Int):Int:=clampZ (mulZ a (sinZ n)+mulZ b (cosZ n))
theorem tabC_bounds:∀ k:Nat,k<16→-65536≤tabC.getD k 0∧tabC.getD k 0≤65536:=by decide
theorem tabS_bounds:∀ k:Nat,k<16→-65536≤tabS.getD k 0∧tabS.getD k 0≤65536:=by decide
theorem cosZ_bounds (n:Int):-65536≤cosZ n∧cosZ n≤65536:=tabC_bounds _ (by unfold placeZ;omega)
theorem sinZ_bounds (n:Int):-65536≤sinZ n∧sinZ n≤65536:=tabS_bounds _ (by unfold placeZ;omega)
theorem mulZ_bounds (a b:Int):-2147483648≤mulZ a b∧mulZ a b≤2147483647:=clampZ_bounds _
theorem turned_call (a b n:Int)(ha:(Lit.int .i64 a).wf=true)(hb:(Lit.int .i64 b).wf=true)(w:World) :
  Calls Tryz.prog 132 #[.int .i64 a,.int .i64 b,.int .i64 n] w fun e w'=>e=.returned (.tuple #[.int .i64 (turnA a b n),.int .i64 (turnB a b n)])∧Below w.heap.size w w':=by
 have cb:=cosZ_bounds n
 have sb:=sinZ_bounds n
 have kc:=fun W=>cos_call n W
 have ks:=fun W=>sin_call n W
 unfold turnA turnB
 obtain⟨C,eC⟩:∃ C,cosZ n=C:=⟨_,rfl⟩
 obtain⟨S,eS⟩:∃ S,sinZ n=S:=⟨_,rfl⟩
 rw[eC] at cb kc ⊢
 rw[eS] at sb ks ⊢
 clear eC eS
 have wC:(Lit.int .i64 C).wf=true:=WalkArith.wf_i64 ⟨by omega,by omega⟩
 have wS:(Lit.int .i64 S).wf=true:=WalkArith.wf_i64 ⟨by omega,by omega⟩
 obtain⟨p0,p1⟩:=mulZ_bounds a C
 obtain⟨q0,q1⟩:=mulZ_bounds b S
 obtain⟨r0,r1⟩:=mulZ_bounds a S
 obtain⟨s0,s1⟩:=mulZ_bounds b C
 have hb:=Below.refl w.heap.size w
 go_enter Tryz.func132,Tryz.ntmps132
 go_wp2_with (first
  | (go_at_call 146;refine (kc _).mono ?_;rintro e W1 ⟨rfl,hb1⟩)
  | (go_at_call 147;refine (ks _).mono ?_;rintro e W2 ⟨rfl,hb2⟩)
  | (go_at_call 104;refine (mul_call _ _ (by assumption) (by assumption) _).mono ?_;rintro e w' ⟨rfl,h⟩;obtain rfl:=h.symm)
  | (go_at_call 114;refine (clamp_call _ _).mono ?_;rintro e w' ⟨rfl,h⟩;obtain rfl:=h.symm))
 go_ret2
 exact⟨rfl,bTn hb1 hb2⟩
end
section
theorem mat_not (a0:Option Addr)(n c0:Nat)(r:Int)(a2:Option Addr)(d c2:Nat)(w:World)(hm:n≤9223372036854775807)(hm2:d≤9223372036854775807)(hr:(Lit.int .i64 r).wf=true)
  (h:¬(0<d∧n%d=0∧((n/d:Nat):Int)=r)) :
  Calls Tryz.prog 49 #[.slice a0 n c0,.int .i64 r,.slice a2 d c2] w fun e w'=>e=.returned (.tuple #[.slice none 0 0,.int .i64 21])∧w'=w:=by
 have kf:∀ W,Calls Tryz.prog 87 #[.int .i64 n,.int .i64 r,.int .i64 d] W fun e w'=>e=.returned (.bool false)∧w'=W:=fun W=>by
  have:=fits_call n d r hm hm2 hr W
  rwa [decide_eq_false h] at this
 clear h
 go_enter Tryz.func49,Tryz.ntmps49
 go_wp2_with (go_at_call 87;refine (kf _).mono ?_;rintro e w' ⟨rfl,h⟩;obtain rfl:=h.symm)
 go_ret2
 exact⟨rfl,rfl⟩
end
section
def cmpI (a b:Int):Int:=if a<b then -1 else if b<a then 1 else 0
def orI (u v:Int):Int:=if u=0 then v else u
theorem cmp64_call (a b:Int)(w:World):Calls Tryz.prog 164 #[.int .i64 a,.int .i64 b] w fun e w'=>e=.returned (.int .i64 (cmpI a b))∧w'=w:=by
 unfold cmpI
 by_cases h:a<b
 ·rw[if_pos h]
  go_enter Tryz.func164,Tryz.ntmps164
  go_wp2
  go_ret
  exact⟨rfl,rfl⟩
 ·rw[if_neg h]
  by_cases h':b<a
  ·rw[if_pos h']
   go_enter Tryz.func164,Tryz.ntmps164
   go_wp2
   go_ret
   exact⟨rfl,rfl⟩
  ·rw[if_neg h']
   go_enter Tryz.func164,Tryz.ntmps164
   go_wp2
   go_ret
   exact⟨rfl,rfl⟩
theorem cmpInt_call (a b:Int)(w:World):Calls Tryz.prog 165 #[.int .i64 a,.int .i64 b] w fun e w'=>e=.returned (.int .i64 (cmpI a b))∧w'=w:=by
 unfold cmpI
 by_cases h:a<b
 ·rw[if_pos h]
  go_enter Tryz.func165,Tryz.ntmps165
  go_wp2
  go_ret
  exact⟨rfl,rfl⟩
 ·rw[if_neg h]
  by_cases h':b<a
  ·rw[if_pos h']
   go_enter Tryz.func165,Tryz.ntmps165
   go_wp2
   go_ret
   exact⟨rfl,rfl⟩
  ·rw[if_neg h']
   go_enter Tryz.func165,Tryz.ntmps165
   go_wp2
   go_ret
   exact⟨rfl,rfl⟩
theorem or_call (b:Nat)(c:Nat)(u v:Int)(w:World)(h0:w.cell? ⟨b,0,none⟩=some (.int .i64 u))(h1:w.cell? ⟨b,1,none⟩=some (.int .i64 v)) :
  Calls Tryz.prog 163 #[.slice (some ⟨b,0,none⟩) 2 c] w fun e w'=>e=.returned (.int .i64 (orI u v))∧w'=w:=by
 unfold orI
 by_cases hu:u=0
 ·rw[if_pos hu]
  subst hu
  by_cases hv:v=0
  ·subst hv
   go_enter Tryz.func163,Tryz.ntmps163
   go_wp2
   refine wp_loop_rounds 3 ?_
   rw[rounds_succ]
   go_wp2
   rw[rounds_succ]
   go_wp2
   rw[rounds_succ]
   go_wp2
   go_ret
   exact⟨rfl,rfl⟩
  ·go_enter Tryz.func163,Tryz.ntmps163
   go_wp2
   refine wp_loop_rounds 2 ?_
   rw[rounds_succ]
   go_wp2
   rw[rounds_succ]
   go_wp2
   go_ret
   exact⟨rfl,rfl⟩
 ·rw[if_neg hu]
  go_enter Tryz.func163,Tryz.ntmps163
  go_wp2
  refine wp_loop_rounds 1 ?_
  rw[rounds_succ]
  go_wp2
  go_ret
  exact⟨rfl,rfl⟩
theorem cf_eq (xs:List Int)(i j:Nat):orI (cmpI (xs.getD j 0) (xs.getD i 0)) (cmpI i j)=cfZ xs i j:=by
 unfold orI cmpI cfZ
 repeat' split
 all_goals omega
theorem order_call (a:Option Addr)(n c:Nat)(w:World) :
  Calls Tryz.prog 157 #[.slice a n c] w fun e w'=>e=.returned (.func (.func 162) #[] #[.pointer (some ⟨w.heap.size,0,none⟩)])∧w'=w.alloc (.cells #[.slice a n c] 34):=by
 go_enter Tryz.func157,Tryz.ntmps157
 go_wp2
 go_ret
 exact⟨rfl,rfl⟩
theorem closure_call (b:Nat)(x:Addr)(n c:Nat)(xs:List Int)(i j:Nat)(hi:i<n)(hj:j<n)(w:World)(hbx:w.cell? ⟨b,0,none⟩=some (.slice (some x) n c))(h0:Reads .i64 w (some x) n xs) :
  Calls Tryz.prog 162 #[.int .i64 i,.int .i64 j,.pointer (some ⟨b,0,none⟩)] w fun e w'=>e=.returned (.int .i64 (cfZ xs i j))∧∃ o,w'=(w.alloc o).drew:=by
 have hm:=h0.max
 have ci:=h0.cell x rfl i hi
 have cj:=h0.cell x rfl j hj
 have hb:b<w.heap.size:=World.block_lt_of_cell? _ _ hbx
 rw[←cf_eq]
 obtain⟨X,eX⟩:∃ X,xs.getD i 0=X:=⟨_,rfl⟩
 obtain⟨Y,eY⟩:∃ Y,xs.getD j 0=Y:=⟨_,rfl⟩
 rw[eX] at ci ⊢
 rw[eY] at cj ⊢
 clear eX eY h0
 have k1:=fun W=>cmp64_call Y X W
 have k2:=fun W=>cmpInt_call i j W
 obtain⟨A,eA⟩:∃ A,cmpI Y X=A:=⟨_,rfl⟩
 obtain⟨B,eB⟩:∃ B,cmpI i j=B:=⟨_,rfl⟩
 rw[eA] at k1 ⊢
 rw[eB] at k2 ⊢
 clear eA eB
 go_enter Tryz.func162,Tryz.ntmps162
 go_wp2
 go_region_with (first
  | (go_at_call 164;refine (k1 _).mono ?_;rintro e W1 ⟨rfl,hw⟩;obtain rfl:=hw.symm;clear hw)
  | (go_at_call 165;refine (k2 _).mono ?_;rintro e W1 ⟨rfl,hw⟩;obtain rfl:=hw.symm;clear hw)
  | (go_at_call 163;refine (or_call _ _ A B _ (by simp) (by simp)).mono ?_;rintro e W1 ⟨rfl,hw⟩;obtain rfl:=hw.symm;clear hw))
 all_goals
  go_wp2
  go_ret
  exact⟨rfl,_,rfl⟩
end
end Go.Proofs.YthliomlmhfjhnaaGreat

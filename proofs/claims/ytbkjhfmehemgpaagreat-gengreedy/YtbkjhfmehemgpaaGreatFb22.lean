/- Texts put together. -/
import Derived.Test.YtbkjhfmehemgpaaGreatFb9
import Derived.Test.YtbkjhfmehemgpaaGreatFb10
namespace Go.Proofs.YtbkjhfmehemgpaaGreat
set_option maxRecDepth 20000
set_option maxHeartbeats 16000000
open Go.ChangeShapes Go.WideShapes Go.ChangeAt Go.RowKit
set_option linter.unusedVariables false
set_option linter.unusedSimpArgs false
theorem drwrap_small {n:Int}(h0:0≤n)(h1:n≤9223372036854775807):IntKind.u64.wrap n=n:=by
 rw[IntKind.wrap_u64];omega
theorem total_call (a0:Option Addr)(n c0:Nat)(p:List Int)(w:World)(h0:Reads .i64 w a0 n p)(hp:Fair p)(hn:n≤1000000) :
  Calls Tryz.prog 127 #[.slice a0 n c0] w fun e w'=>e=.returned (.int .u64 (upTo p n))∧w'=w:=by
 go_enter Tryz.func127,Tryz.ntmps127
 go_wp2
 go_loopw [3,8] (fun s i wr=>∃ k:Nat,k≤n∧i=.int .i64 k∧s=.int .u64 (upTo p k)∧wr=w) (fun _ i _=>n-(intOf i).toNat)
 case atStart=>exact⟨0,Nat.zero_le _,rfl,rfl,rfl⟩
 case round =>
  obtain⟨k,hk,rfl,rfl,hw⟩:=hrel
  subst hw
  by_cases hlt:k<n
  ·obtain⟨x,rfl⟩:=h0.some_ (by omega)
   have cx:=h0.cell x rfl k hlt
   have es:=upTo_succ p k
   have b:=upTo_bounds hp k
   have bz:=hp k
   obtain⟨Z,eZ⟩:∃ Z,p.getD k 0=Z:=⟨_,rfl⟩
   obtain⟨S,eS⟩:∃ S,upTo p k=S:=⟨_,rfl⟩
   rw[eZ] at cx es bz
   rw[eS] at es b ⊢
   have e1:IntKind.u64.wrap (S+IntKind.u64.wrap Z)=S+Z:=by rw[drwrap_small bz.1 (by omega),drwrap_small (by omega) (by omega)]
   have Es:Hid (upTo p (k+1)=S+Z):=es
   have E1:Hid (IntKind.u64.wrap (S+IntKind.u64.wrap Z)=S+Z):=e1
   clear eZ eS es e1 bz b
   go_wp2
   all_goals
    go_roundw
    case rel=>exact⟨k+1,by omega,by go_num,by rw[Es.out,E1.out],trivial⟩
    case measure=>simp[intOf];omega
  ·have e:k=n:=by omega
   subst e
   go_wp2
   go_ret
   exact⟨rfl,rfl⟩
theorem reached_call (a0:Option Addr)(n c0:Nat)(p:List Int)(r:Int)(w:World)(h0:Reads .i64 w a0 n p)(hp:Fair p)(hn:n≤1000000)(r0:0≤r)(r1:r<upTo p n) :
  Calls Tryz.prog 128 #[.slice a0 n c0,.int .u64 r] w fun e w'=>e=.returned (.int .i64 (seatZ p n r))∧w'=w:=by
 have hpos:0<n:=by
  rcases Nat.eq_zero_or_pos n with h|h
  ·rw[h] at r1
   have:upTo p 0=0:=rfl
   omega
  ·exact h
 have hb:=upTo_bounds hp n
 have hr:r≤9223372036854775807:=by omega
 obtain⟨x,rfl⟩:=h0.some_ hpos
 clear hb
 have R1:Hid (r<upTo p n):=r1
 clear r1
 go_enter Tryz.func128,Tryz.ntmps128
 go_wp2
 go_loopw [1,5] (fun l i wr=>∃ k:Nat,k<n∧i=.int .i64 k∧(∃ q:Int,l=.int .u64 q∧q=r-upTo p k∧0≤q)∧wr=w) (fun _ i _=>n-(intOf i).toNat)
 case atStart=>exact⟨0,hpos,rfl,⟨r,rfl,by show r=r-0;omega,r0⟩,rfl⟩
 case round =>
  obtain⟨k,hk,rfl,⟨q,rfl,eq,q0⟩,hw⟩:=hrel
  subst hw
  have cx:=h0.cell x rfl k hk
  have es:=upTo_succ p k
  have b:=upTo_bounds hp k
  have bz:=hp k
  have so:=fun (h:upTo p k≤r) (h':r<upTo p (k+1))=>seat_of hp hk h h'
  have nx:upTo p (k+1)≤r→k+1<n:=fun h=>by
   by_cases e:k+1=n
   ·have:=R1.out
    rw[e] at h
    omega
   ·omega
  obtain⟨Z,eZ⟩:∃ Z,p.getD k 0=Z:=⟨_,rfl⟩
  rw[eZ] at cx es bz
  have eZw:IntKind.u64.wrap Z=Z:=drwrap_small bz.1 (by omega)
  by_cases hq:Z≤q
  ·have nx':=nx (by omega)
   have eW:IntKind.u64.wrap (q-Z)=q-Z:=drwrap_small (by omega) (by omega)
   have Rq:Hid (q-Z=r-upTo p (k+1)∧0≤q-Z):=⟨by omega,by omega⟩
   clear es b so nx eq eZ
   go_wp2
   all_goals (try (exfalso;omega))
   all_goals
    go_roundw
    case rel=>exact⟨k+1,nx',by go_num,⟨_,rfl,Rq.out.1,Rq.out.2⟩,trivial⟩
    case measure=>simp[intOf];omega
  ·have so':=so (by omega) (by omega)
   clear es b so nx eq eZ
   go_wp2
   all_goals (try (exfalso;omega))
   go_ret
   exact⟨rfl,rfl⟩
theorem cooled_call (a0:Option Addr)(n c0:Nat)(xs:List Int)(a1:Option Addr)(m c1:Nat)(ps:List Int)(L:List Nat)(h:Int)(w:World)(h0:Reads .i64 w a0 n xs)(h1:Reads .i64 w a1 m ps)(hps:∀ j,j<m→ps.getD j 0=(L.getD j 0:Nat)∧L.getD j 0<n)(hh:(Lit.int .i64 h).wf=true)(hb:m*8≤281474976710656) :
  Calls Tryz.prog 126 #[.slice a0 n c0,.slice a1 m c1,.int .i64 h] w fun e w'=>(∃ a c,e=.returned (.slice a m c)∧Reads .i64 w' a m ((List.range m).map fun j=>divZ (xs.getD (L.getD j 0) 0) h))∧Below w.heap.size w w':=by
 obtain⟨i0,hi,hz0,hz1,hz2⟩:=info_parts info2
 have hm0:=h0.max
 have hm1:=h1.max
 go_enter Tryz.func126,Tryz.ntmps126
 go_wp2_with (at_make;refine wpList_make_full _ rfl (.tmp 11) (.tmp 11) 70 rfl w.heap.size 2 i0 (.int .i64 0) 1 Tryz.underlying70 hi hz0 hz1 .i64 .i64 _ _ m rfl rfl rfl rfl (by rw[hz2];omega) (by unfold maxLen;omega) (Nat.le_refl _) ?_;intro w1 hown hgrow)
 have hbel:Below w.heap.size w w1:=(Below.refl _ _).grown hgrow (Nat.le_refl _) (fun k h=>by cases h)
 go_wp2
 go_loopw [15] (fun i wr=>∃ k:Nat,k≤m∧i=.int .i64 k∧Below w.heap.size w wr∧∃ cs,wr.ownsRow w.heap.size 2 1 (.slice (some ⟨w.heap.size,0,none⟩) m m) m cs∧∀ j,j<k→cs[j]? = some (.int .i64 (divZ (xs.getD (L.getD j 0) 0) h))) (fun i _=>m-(intOf i).toNat)
 case atStart=>exact⟨0,Nat.zero_le _,rfl,hbel,_,hown,fun j hj=>by omega⟩
 case round =>
  obtain⟨k,hk,rfl,hbr,cs,ho,hcs⟩:=hrel
  by_cases hlt:k<m
  ·have hr0:=h0.below hbr
   have hr1:=h1.below hbr
   obtain⟨y,rfl⟩:=h1.some_ (by omega)
   have cy:=hr1.cell y rfl k hlt
   obtain⟨ep,lp⟩:=hps k hlt
   obtain⟨x,rfl⟩:=h0.some_ (by omega)
   rw[ep] at cy
   have cx:=hr0.cell x rfl (L.getD k 0) lp
   have wx:=h0.wf (L.getD k 0)
   have hlen:=oLe ho
   have kd:=fun W=>div_call (xs.getD (L.getD k 0) 0) h wx hh W
   have ed:divZ (xs.getD (L.getD k 0) 0) h=divZ (xs.getD (L.getD k 0) 0) h:=rfl
   obtain⟨D,eD⟩:∃ D,divZ (xs.getD (L.getD k 0) 0) h=D:=⟨_,rfl⟩
   rw[eD] at kd
   have step:=(ho.stored k (.int .i64 D)).1
   have st2:=set_step (F:=fun j=>Value.int .i64 (divZ (xs.getD (L.getD j 0) 0) h)) hlen hlt (show Value.int .i64 D=.int .i64 (divZ (xs.getD (L.getD k 0) 0) h) by rw[eD]) hcs
   obtain⟨X,eX⟩:∃ X,xs.getD (L.getD k 0) 0=X:=⟨_,rfl⟩
   rw[eX] at cx kd
   obtain⟨P,eP⟩:∃ P,L.getD k 0=P:=⟨_,rfl⟩
   rw[eP] at cx cy lp
   obtain⟨u,hu⟩:∃ u,cs[k]? = some u:=⟨cs[k],by simp[hlen,hlt]⟩
   have cell2:wr.cell? ⟨w.heap.size,k,none⟩=some u:=(ho.cellAt k (by omega)).trans hu
   have froz:=ho.frozenAt k
   have R:Hid (Below w.heap.size w (wr.setCell ⟨w.heap.size,k,none⟩ (.int .i64 D))∧∃ cs',(wr.setCell ⟨w.heap.size,k,none⟩ (.int .i64 D)).ownsRow w.heap.size 2 1 (.slice (some ⟨w.heap.size,0,none⟩) m m) m cs'∧∀ j,j<k+1→cs'[j]? = some (.int .i64 (divZ (xs.getD (L.getD j 0) 0) h))) :=
    ⟨hbr.setCell (Nat.le_refl _) _,_,step,st2⟩
   clear step st2 ed eD eX eP ep wx hr0 hr1 hown hgrow hbel hi hz0 hz1 hz2 hps hcs ho hbr hlen hu
   go_wp2_with (go_at_call 154;refine (kd _).mono ?_;rintro e w' ⟨rfl,h⟩;obtain rfl:=h.symm)
   go_roundw
   case rel=>exact⟨k+1,by omega,by go_num,R.out⟩
   case measure=>simp[intOf];omega
  ·have e:k=m:=by omega
   subst e
   have fin:=oRa (zs:=(List.range k).map fun j=>divZ (xs.getD (L.getD j 0) 0) h) ho (by simp) (fun z hz=>by obtain⟨y,_,rfl⟩:=List.mem_map.1 hz;exact wf_divZ _ _) (fun i hi=>by rw[hcs i hi];simp[hi])
   go_wp2
   go_ret
   exact⟨⟨_,_,rfl,fin⟩,hbr⟩
section
theorem Grid.first {w:World}{x:Addr}{n:Nat}{A:Nat→Option Addr}{C:Nat→Nat}{R:Nat→List Int}(h:Grid w (some x) n A C R)(hn:0<n):w.cell? x=some (.slice (A 0) (R 0).length (C 0)):=by
 have:=h.cell x rfl 0 hn
 rwa [Addr.add_zero'] at this
def Even (n:Nat)(R:Nat→List Int):Prop:=0<n∧∀ r,r<n→(R r).length=(R 0).length
theorem sameLengths_yes (a0:Option Addr)(n c0:Nat)(A:Nat→Option Addr)(C:Nat→Nat)(R:Nat→List Int)(w:World)(h0:Grid w a0 n A C R)(he:Even n R) :
  Calls Tryz.prog 77 #[.slice a0 n c0] w fun e w'=>e=.returned (.bool true)∧∃ m,w'=w.drewN m:=by
 have hm:=h0.max
 obtain⟨hn,he⟩:=he
 go_enter Tryz.func77,Tryz.ntmps77
 go_wp2
 go_loopw [6] (fun i wr=>∃ k:Nat,k≤n∧i=.int .i64 k∧∃ m,wr=w.drewN m) (fun i _=>n-(intOf i).toNat)
 case atStart=>exact⟨0,Nat.zero_le _,rfl,0,rfl⟩
 case round =>
  obtain⟨k,hk,rfl,m,hw⟩:=hrel
  by_cases hlt:k<n
  ·obtain⟨x,rfl⟩:=h0.some_ (by omega)
   have cx:wr.cell? (x.add k)=some (.slice (A k) (R k).length (C k)):=by rw[hw];exact h0.cell x rfl k hlt
   have c0':wr.cell? x=some (.slice (A 0) (R 0).length (C 0)):=by rw[hw];exact h0.first hn
   have Hw:Hid (wr=w.drewN m):=hw
   clear hw
   rw[he k hlt] at cx
   obtain⟨d,ed⟩:∃ d,(R 0).length=d:=⟨_,rfl⟩
   rw[ed] at cx c0'
   clear ed he h0
   go_wp2
   go_quiet (fail)
   go_wp2
   go_roundw
   case rel=>exact⟨k+1,by omega,by go_num,_,by rw[Hw.out,World.drewN_drewN]⟩
   case measure=>simp[intOf];omega
  ·have e:k=n:=by omega
   subst e
   subst hw
   go_wp2
   go_ret
   exact⟨rfl,_,rfl⟩
def colZ (R:Nat→List Int)(j:Nat):Nat→Int
 | 0=>0
 | k+1=>addZ (colZ R j k) (cZ ((R k).getD j 0))
theorem wf_colZ (R:Nat→List Int)(j k:Nat):(Lit.int .i64 (colZ R j k)).wf=true:=by
 cases k with
 | zero=>show (Lit.int .i64 0).wf=true;decide
 | succ k=>exact wf_addZ _ _
theorem addRow_call (w0 w:World)(g:Nat)(d:Nat)(F:Nat→Int)(hF:∀ j,(Lit.int .i64 (F j)).wf=true)(cs:List Value)(a:Option Addr)(c:Nat)(zs:List Int)(hb:Below w0.heap.size w0 w)(h0:Reads .i64 w0 a d zs)(hg:w0.heap.size≤g)
  (ho:w.ownsRow w0.heap.size 2 1 (.slice (some ⟨g,0,none⟩) d d) d cs) (hc:∀ j,j<d→cs[j]? = some (.int .i64 (F j))) :
  Calls Tryz.prog 78 #[.slice (some ⟨g,0,none⟩) d d,.slice a d c] w fun e w'=>e=.returned (.tuple #[])∧Below w0.heap.size w0 w'∧∃ cs',w'.ownsRow w0.heap.size 2 1 (.slice (some ⟨g,0,none⟩) d d) d cs'∧∀ j,j<d→cs'[j]? = some (.int .i64 (addZ (F j) (cZ (zs.getD j 0)))):=by
 have hm:=h0.max
 go_enter Tryz.func78,Tryz.ntmps78
 go_wp2
 go_loopw [7] (fun i wr=>∃ k:Nat,k≤d∧i=.int .i64 k∧Below w0.heap.size w0 wr∧∃ cs,wr.ownsRow w0.heap.size 2 1 (.slice (some ⟨g,0,none⟩) d d) d cs∧(∀ j,j<k→cs[j]? = some (.int .i64 (addZ (F j) (cZ (zs.getD j 0)))))∧∀ j,k≤j→j<d→cs[j]? = some (.int .i64 (F j))) (fun i _=>d-(intOf i).toNat)
 case atStart=>exact⟨0,Nat.zero_le _,rfl,hb,cs,ho,fun j hj=>by omega,fun j _ hj=>hc j hj⟩
 case round =>
  clear ho hc hb
  obtain⟨k,hk,rfl,hbr,ds,ho,h1,h2⟩:=hrel
  by_cases hlt:k<d
  ·obtain⟨x,rfl⟩:=h0.some_ (by omega)
   have cx:=(h0.below hbr).cell x rfl k hlt
   have hlen:=oLe ho
   have cell:wr.cell? ⟨g,k,none⟩=some (.int .i64 (F k)):=(ho.cellAt k (by omega)).trans (h2 k (Nat.le_refl _) hlt)
   have froz:=ho.frozenAt k
   have wf:=hF k
   obtain⟨X,eX⟩:∃ X,zs.getD k 0=X:=⟨_,rfl⟩
   obtain⟨Y,eY⟩:∃ Y,F k=Y:=⟨_,rfl⟩
   have R:Hid (Below w0.heap.size w0 (wr.setCell ⟨g,k,none⟩ (.int .i64 (addZ Y (cZ X))))∧∃ ds',(wr.setCell ⟨g,k,none⟩ (.int .i64 (addZ Y (cZ X)))).ownsRow w0.heap.size 2 1 (.slice (some ⟨g,0,none⟩) d d) d ds'∧(∀ j,j<k+1→ds'[j]? = some (.int .i64 (addZ (F j) (cZ (zs.getD j 0)))))∧∀ j,k+1≤j→j<d→ds'[j]? = some (.int .i64 (F j))) :=
    ⟨hbr.setCell hg _,_,(ho.stored k _).1,set_step (F:=fun j=>Value.int .i64 (addZ (F j) (cZ (zs.getD j 0)))) hlen hlt (by rw[eX,eY]) h1,fun j h hj=>by rw[List.getElem?_set_ne (by omega)];exact h2 j (by omega) hj⟩
   rw[eX] at cx
   rw[eY] at cell wf
   have wc:=wCz X
   clear eX eY h1 h2 ho hlen hbr h0 hF
   go_wp2
   go_region_with (first
    | (go_at_call 79;refine (cCa _ _).mono ?_;rintro e w' ⟨rfl,rfl⟩)
    | (go_at_call 111;refine (add_call _ _ wf wc _).mono ?_;rintro e w' ⟨rfl,rfl⟩))
   all_goals
    go_wp2
    go_roundw
    case rel=>exact⟨k+1,by omega,by go_num,R.out.1.drew,R.out.2⟩
    case measure=>simp[intOf];omega
  ·have e:k=d:=by omega
   subst e
   have fin:Hid (∃ cs',wr.ownsRow w0.heap.size 2 1 (.slice (some ⟨g,0,none⟩) k k) k cs'∧∀ j,j<k→cs'[j]? = some (.int .i64 (addZ (F j) (cZ (zs.getD j 0))))):=⟨ds,ho,h1⟩
   clear ho h1 h2
   go_wp2
   go_end0
   exact⟨rfl,hbr,fin.out⟩
def meanF (R:Nat→List Int)(n:Nat)(j:Nat):Int:=cZ ((colZ R j n).tdiv n)
theorem tdiv_up (S:Int)(n:Nat)(h:0≤S):0≤S.tdiv n:=Int.tdiv_nonneg h (Int.natCast_nonneg n)
theorem tdiv_down (S:Int)(n:Nat)(h:S≤0):S.tdiv n≤0:=by
 have:=tdiv_up (-S) n (by omega)
 rw[Int.neg_tdiv] at this
 omega
theorem tdiv_within (S:Int)(n:Nat)(h0:-9223372036854775808≤S)(h1:S≤9223372036854775807):-9223372036854775808≤S.tdiv n∧S.tdiv n≤9223372036854775807:=by
 have a:(S.tdiv n).natAbs≤S.natAbs:=by
  rw[Int.natAbs_tdiv]
  exact Nat.div_le_self _ _
 by_cases h:0≤S
 ·have:=tdiv_up S n h
  omega
 ·have:=tdiv_down S n (by omega)
  omega
theorem mean_even (a0:Option Addr)(n c0:Nat)(A:Nat→Option Addr)(C:Nat→Nat)(R:Nat→List Int)(w:World)(h0:Grid w a0 n A C R)(he:Even n R)(hb:(R 0).length*8≤281474976710656) :
  Calls Tryz.prog 42 #[.slice a0 n c0] w fun e w'=>(∃ a c,e=.returned (.tuple #[.slice a (R 0).length c,.int .i64 0])∧Reads .i64 w' a (R 0).length ((List.range (R 0).length).map (meanF R n)))∧Below w.heap.size w w':=by
 obtain⟨i0,hi,hz0,hz1,hz2⟩:=info_parts info2
 have hm:=h0.max
 have ks:=sameLengths_yes a0 n c0 A C R w h0 he
 obtain⟨hn,he⟩:=he
 have hd:=(h0.row 0 hn).max
 have row:∀ r,r<n→Reads .i64 w (A r) (R 0).length (R r):=fun r hr=>by have:=h0.row r hr;rwa [he r hr] at this
 have cel:∀ x,a0=some x→∀ r,r<n→w.cell? (x.add r)=some (.slice (A r) (R 0).length (C r)):=fun x hx r hr=>by have:=h0.cell x hx r hr;rwa [he r hr] at this
 obtain⟨x,rfl⟩:=h0.some_ hn
 have cel:=cel x rfl
 obtain⟨d,ed⟩:∃ d,(R 0).length=d:=⟨_,rfl⟩
 rw[ed] at hd row cel hb ⊢
 clear ed he h0
 go_enter Tryz.func42,Tryz.ntmps42
 go_wp2_with (first
  | (go_at_call 77;refine ks.mono ?_;rintro e W1 ⟨rfl,hq⟩;have hb1:=bDr (Below.refl w.heap.size w) hq;have cel0:W1.cell? x=some (.slice (A 0) d (C 0)):=(by obtain⟨m,rfl⟩:=hq;rw[←Addr.add_zero' x];exact cel 0 hn);clear hq ks)
  | (at_make;(refine wpList_make_full _ rfl (.tmp 13) (.tmp 13) 70 rfl w.heap.size 2 i0 (.int .i64 0) 1 Tryz.underlying70 hi hz0 hz1 .i64 .i64 _ _ d rfl rfl rfl rfl (by rw[hz2];omega) (by unfold maxLen;omega) hb1.size ?_;intro w1 hown hgrow)))
 have hbel:Below w.heap.size w w1:=hb1.grown hgrow hb1.size (fun k h=>by cases h)
 have hg:=hb1.size
 obtain⟨g,eg⟩:∃ g,W1.heap.size=g:=⟨_,rfl⟩
 rw[eg] at hown hg ⊢
 clear eg hgrow cel0 hb1
 have start:∀ j,j<d→(madeCells (Value.int .i64 0).cells (d*1)).toList[j]? = some (.int .i64 0):=fun j hj=>by
  rw[show (Value.int .i64 0).cells=#[.int .i64 0] from rfl,toList_madeCells_one]
  simp[hj]
 go_wp2
 go_loopw [17] (fun i wr=>∃ k:Nat,k≤n∧i=.int .i64 k∧Below w.heap.size w wr∧∃ cs,wr.ownsRow w.heap.size 2 1 (.slice (some ⟨g,0,none⟩) d d) d cs∧∀ j,j<d→cs[j]? = some (.int .i64 (colZ R j k))) (fun i _=>n-(intOf i).toNat)
 case atStart=>exact⟨0,Nat.zero_le _,rfl,hbel,_,hown,start⟩
 case round =>
  clear hown start hbel
  obtain⟨k,hk,rfl,hbr,cs,ho,hcs⟩:=hrel
  by_cases hlt:k<n
  ·have cx:wr.cell? (x.add k)=some (.slice (A k) d (C k)):=(hbr.cell (World.block_lt_of_cell? w _ (cel k hlt))).trans (cel k hlt)
   have ka:=addRow_call w wr g d (fun j=>colZ R j k) (fun j=>wf_colZ R j k) cs (A k) (C k) (R k) hbr (row k hlt) hg ho hcs
   have Ka:=ka
   clear ka ho hcs row cel hi hz0 hz1 hz2
   go_wp2_with (go_at_call 78;refine Ka.mono ?_;rintro e W2 ⟨rfl,R2⟩;have R2':Hid _:=R2;clear R2)
   go_roundw
   case rel =>
    obtain⟨b2,cs2,o2,c2⟩:=R2'.out
    exact⟨k+1,by omega,by go_num,b2,cs2,o2,c2⟩
   case measure=>simp[intOf];omega
  ·have e:k=n:=by omega
   subst e
   rename World=>W2
   have kz:((k:Int)==0)=false:=by simp;omega
   clear cel row
   go_wp2
   go_loopw [29] (fun i wr=>∃ j:Nat,j≤d∧i=.int .i64 j∧Below w.heap.size w wr∧∃ ds,wr.ownsRow w.heap.size 2 1 (.slice (some ⟨g,0,none⟩) d d) d ds∧(∀ i,i<j→ds[i]? = some (.int .i64 (meanF R k i)))∧∀ i,j≤i→i<d→ds[i]? = some (.int .i64 (colZ R i k))) (fun i _=>d-(intOf i).toNat)
   case atStart=>exact⟨0,Nat.zero_le _,rfl,hbr,_,ho,fun j hj=>by omega,fun i _ hi=>hcs i hi⟩
   case round =>
    clear hcs ho hbr
    obtain⟨j,hj,rfl,hbr,ds,ho,h1,h2⟩:=hrel
    by_cases hlt:j<d
    ·have hlen:=oLe ho
     have cell:wr.cell? ⟨g,j,none⟩=some (.int .i64 (colZ R j k)):=(ho.cellAt j (by omega)).trans (h2 j (Nat.le_refl _) hlt)
     have froz:=ho.frozenAt j
     have wc:=bounds_i64 (wf_colZ R j k)
     have tb:=tdiv_within (colZ R j k) k wc.1 wc.2
     have R':Hid (Below w.heap.size w (wr.setCell ⟨g,j,none⟩ (.int .i64 (cZ ((colZ R j k).tdiv k))))∧∃ ds',(wr.setCell ⟨g,j,none⟩ (.int .i64 (cZ ((colZ R j k).tdiv k)))).ownsRow w.heap.size 2 1 (.slice (some ⟨g,0,none⟩) d d) d ds'∧(∀ i,i<j+1→ds'[i]? = some (.int .i64 (meanF R k i)))∧∀ i,j+1≤i→i<d→ds'[i]? = some (.int .i64 (colZ R i k))) :=
      ⟨hbr.setCell hg _,_,(ho.stored j _).1,set_step (F:=fun i=>Value.int .i64 (meanF R k i)) hlen hlt rfl h1,fun i h hi=>by rw[List.getElem?_set_ne (by omega)];exact h2 i (by omega) hi⟩
     obtain⟨S,eS⟩:∃ S,colZ R j k=S:=⟨_,rfl⟩
     rw[eS] at cell wc tb R'
     clear eS h1 h2 ho hlen hbr hi hz0 hz1 hz2
     obtain⟨t0,t1⟩:=tb
     go_wp2_with (go_at_call 79;refine (cCa _ _).mono ?_;rintro e w' ⟨rfl,h⟩;obtain rfl:=h.symm)
     go_roundw
     case rel=>exact⟨j+1,by omega,by go_num,R'.out⟩
     case measure=>simp[intOf];omega
    ·have e:j=d:=by omega
     subst e
     have fin:=oRa (zs:=(List.range j).map (meanF R k)) ho (by simp) (fun z hz=>by obtain⟨y,_,rfl⟩:=List.mem_map.1 hz;exact wCz _) (fun i hi=>by rw[h1 i hi];simp[hi])
     clear h1 h2 ho
     go_wp2
     go_ret2
     exact⟨⟨_,_,rfl,fin⟩,hbr⟩
open Classical in
end
end Go.Proofs.YtbkjhfmehemgpaaGreat

/- Texts put together. -/
import Derived.Test.YtbkjhfmehemgpaaGreatFb11
namespace Go.Proofs.YtbkjhfmehemgpaaGreat
set_option maxRecDepth 20000
set_option maxHeartbeats 16000000
open Go.ChangeShapes Go.WideShapes Go.ChangeAt Go.RowKit
set_option linter.unusedVariables false
set_option linter.unusedSimpArgs false
section
open Go.Shelf Go.RowKit Go.Lib Go.Sort
variable {P:Program}{k:Nat}
set_option maxRecDepth 1000000 in
theorem symLo_call (L:SrtP P k)(enc:Nat→List Value)(cf:Nat→Nat→Int)(sc:Nat→Int)(hcf:∀ x y,cf x y<0↔sc y<sc x)(g:Nat)(cb:Array Value)(blk off cap a m b:Nat)(d0 d:Array Nat)(w0 w:World)
  (eg:∀ args w,(callFunc g args).run P w=.ok (.enter g args) w) (hcmp:CmpLays P g cb enc k cf blk off d0.size w0)
  (R:RowK enc k w0 blk off d0) (hs:d0.size=d.size) (S:SWK enc k w0 blk off d w) (ham:a<m) (hmb:m<b) (hb:b≤d.size) (hsz:d.size<1099511627776) (hT:Two sc d a m b) (hma:a+1<m) (hbm:m+1<b)
  (ih:∀ (a' m' b':Nat) (d':Array Nat) (W:World),b'-a'<b-a→d'.size=d.size→SWK enc k w0 blk off d' W→a'<m'→m'<b'→b'≤d.size→Two sc d' a' m' b' →
   Calls P 189 #[.slice (some ⟨blk,off,none⟩) d.size cap,.int .i64 a',.int .i64 m',.int .i64 b',.func (.func g) #[] cb] W fun e w'=>e=.returned (.tuple #[])∧∃ dF:Array Nat,Mv a' b' d' dF∧Srt sc dF a' b'∧SWK enc k w0 blk off dF w')
  (hmid:m≤(a+b)/2) :
  Calls P 189 #[.slice (some ⟨blk,off,none⟩) d.size cap,.int .i64 a,.int .i64 m,.int .i64 b,.func (.func g) #[] cb] w fun e w'=>e=.returned (.tuple #[])∧∃ dF:Array Nat,Mv a b d dF∧Srt sc dF a b∧SWK enc k w0 blk off dF w':=by
 have mixed:=L.mixed;have t0:=L.t0;have a0:=L.a0;have z0:=L.z0;have v0:=L.v0;have t3:=L.t3;have a3:=L.a3;have z3:=L.z3;have v3:=L.v3;have t4:=L.t4;have a4:=L.a4;have z4:=L.z4;have v4:=L.v4;have t51:=L.t51;have a51:=L.a51;have z51:=L.z51;have v51:=L.v51;have t57:=L.t57;have a57:=L.a57;have z57:=L.z57;have v57:=L.v57;have t74:=L.t74;have a74:=L.a74;have z74:=L.z74;have v74:=L.v74;have aE:=L.aE;have zE:=L.zE
 have FG:=L.f43
 have e44:∀ args w,(callFunc 210 args).run P w=.ok (.enter 210 args) w:=enters_of L.f44 (by decide) rfl
 have e43:∀ args w,(callFunc 189 args).run P w=.ok (.enter 189 args) w:=enters_of L.f43 (by decide) rfl
 have rot:Aside (∀ (W:World) (x y z:Nat),SWK enc k w0 blk off d W→x<y→y<z→z≤d.size →
   Calls P 210 #[.slice (some ⟨blk,off,none⟩) d.size cap,.int .i64 x,.int .i64 y,.int .i64 z,.func (.func g) #[] cb] W fun e w'=>e=.returned (.tuple #[])∧∃ dF:Array Nat,dF.size=d.size∧Rot x y z d dF∧SWK enc k w0 blk off dF w'):=fun W x y z h1 h2 h3 h4 =>
  rotate_call L enc g cb blk off cap x y z d0 d w0 W R hs h1 h2 h3 h4 hsz
 have HC:Aside _:=hcmp
 have HF:Hid (∀ x y,cf x y<0↔sc y<sc x):=hcf
 have HT:Hid (Two sc d a m b):=hT
 have S0:Aside (SWK enc k w0 blk off d w):=S
 have IH:Aside _:=ih
 clear hcmp hcf hT S L ih
 obtain⟨ma,ema⟩:∃ ma,m-a=ma:=⟨_,rfl⟩
 have zma:(m:Int)-(a:Int)=(ma:Int):=by omega
 have tma:((ma:Int)==1)=false:=by simp;omega
 have bma:(ma:Int)<(d.size:Int):=by omega
 obtain⟨bm,ebm⟩:∃ bm,b-m=bm:=⟨_,rfl⟩
 have zbm:(b:Int)-(m:Int)=(bm:Int):=by omega
 have tbm:((bm:Int)==1)=false:=by simp;omega
 have bbm:(bm:Int)<(d.size:Int):=by omega
 obtain⟨sab,esab⟩:∃ sab,a+b=sab:=⟨_,rfl⟩
 obtain⟨mid,emid⟩:∃ mid,sab/2=mid:=⟨_,rfl⟩
 have hmid1:m≤mid:=by rw[←emid,←esab];exact hmid
 have zsab:(a:Int)+(b:Int)=(sab:Int):=by omega
 have zmid:(sab:Int)/2=(mid:Int):=by omega
 have usab:IntKind.u64.wrap (sab:Int)=(sab:Int):=by rw[IntKind.wrap_u64];omega
 have umid:IntKind.u64.wrap (mid:Int)=(mid:Int):=by rw[IntKind.wrap_u64];omega
 have bsab:sab<4611686018427387904:=by omega
 obtain⟨nn,enn⟩:∃ nn,mid+m=nn:=⟨_,rfl⟩
 have znn:(mid:Int)+(m:Int)=(nn:Int):=by omega
 have bnn:nn<4611686018427387904:=by omega
 obtain⟨p,ep⟩:∃ p,nn-1=p:=⟨_,rfl⟩
 have zp:(nn:Int)-1=(p:Int):=by omega
 have tm:¬(mid:Int)<(m:Int):=by omega
 have G:Hid (a+b=sab∧sab/2=mid∧mid+m=nn∧nn-1=p∧m≤mid):=by show _∧_;omega
 clear ema ebm esab emid enn ep hmid hmid1
 go_enter FG,Tryz.ntmps189
 go_wp2
 clear tm tma tbm zma zbm zsab zmid usab umid
 go_loopg [20,21] (m-a) (fun kx s20 s21 wr=>∃ (s r:Nat),s20=.int .i64 s∧s21=.int .i64 r∧a≤s∧s≤r∧r≤m∧r-s≤kx∧Aside (SWK enc k w0 blk off d wr)∧Hid (s=a∨sc d[nn-s]!≤sc d[s-1]!)∧Hid (r=m∨sc d[r]! < sc d[nn-r-1]!))
 case atStart=>exact⟨a,m,rfl,rfl,Nat.le_refl _,by have:=G.out;omega,Nat.le_refl _,Nat.le_refl _,S0,.inl rfl,.inl rfl⟩
 case round =>
  clear S0
  obtain⟨s,r,rfl,rfl,hs0,hsr,hr0,hkx,S1,HL,HH⟩:=hrel
  by_cases hlt:s<r
  ·have hltz:(s:Int)<(r:Int):=by omega
   have gg:=G.out
   obtain⟨sm,esm⟩:∃ sm,s+r=sm:=⟨_,rfl⟩
   obtain⟨c,ec⟩:∃ c,sm/2=c:=⟨_,rfl⟩
   have zsm:(s:Int)+(r:Int)=(sm:Int):=by omega
   have zsc:(sm:Int)/2=(c:Int):=by omega
   have us:IntKind.u64.wrap (sm:Int)=(sm:Int):=by rw[IntKind.wrap_u64];omega
   have uh:IntKind.u64.wrap (c:Int)=(c:Int):=by rw[IntKind.wrap_u64];omega
   have hb0:sm<4611686018427387904:=by omega
   obtain⟨q,eq⟩:∃ q,p-c=q:=⟨_,rfl⟩
   have zq:(p:Int)-(c:Int)=(q:Int):=by omega
   have hqn:nn-(c+1)=q∧nn-c-1=q:=by omega
   have hqd:q<d.size:=by omega
   have ec:((c:Nat):Int).toNat=c:=by omega
   have pc:(0:Int)≤((c:Nat):Int):=by omega
   have bc:((c:Nat):Int)<(d.size:Int):=by omega
   have rc:IntKind.i64.wrap (((c:Nat):Int))=((c:Nat):Int):=by rw[IntKind.wrap_i64];omega
   have eq:((q:Nat):Int).toNat=q:=by omega
   have pq:(0:Int)≤((q:Nat):Int):=by omega
   have bq:((q:Nat):Int)<(d.size:Int):=by omega
   have rq:IntKind.i64.wrap (((q:Nat):Int))=((q:Nat):Int):=by rw[IntKind.wrap_i64];omega
   have HQ:Hid (nn-(c+1)=q∧nn-c-1=q):=hqn
   have hsc:s≤c∧c<r:=by omega
   clear hqn gg eq
   obtain⟨vx,hx⟩:∃ v,v=d[q]!:=⟨_,rfl⟩
   obtain⟨vy,hy⟩:∃ v,v=d[c]!:=⟨_,rfl⟩
   have la:=S1.out.ld R (by omega) P q (by omega)
   have lb:=S1.out.ld R (by omega) P c (by omega)
   rw[←hx] at la
   rw[←hy] at lb
   have hc:=S1.out.cmp HC.out (by omega) vx vy
   by_cases hlv:cf vx vy<0
   ·have hd:decide (cf vx vy<0)=true:=decide_eq_true hlv
    have hst:Hid (c=m∨sc d[c]! < sc d[nn-c-1]!):=.inr (by rw[HQ.out.2,←hx,←hy];exact (HF.out vx vy).1 hlv)
    clear hx hy
    go_wp2_with fail
    go_quiet_grown (first|(go_at_fn g;refine Calls.grown_of (hc _ _)))
    have S2:Aside (SWK enc k w0 blk off d (grow (wr.drewN nq) osq)):=S1.out.grown nq osq
    clear la lb hc S1
    generalize grow (wr.drewN nq) osq=w2 at S2 ⊢
    clear nq osq
    go_wp2
    go_roundg (c-s)
    case measure=>omega
    case rel=>exact⟨s,c,rfl,rfl,hs0,by omega,by omega,Nat.le_refl _,S2,HL,hst⟩
   ·have hd:decide (cf vx vy<0)=false:=decide_eq_false hlv
    have hst:Hid (c+1=a∨sc d[nn-(c+1)]!≤sc d[c+1-1]!):=.inr (by rw[HQ.out.1,Nat.add_sub_cancel,←hx,←hy];exact Int.not_lt.1 fun hh=>hlv ((HF.out vx vy).2 hh))
    clear hx hy
    go_wp2_with fail
    go_quiet_grown (first|(go_at_fn g;refine Calls.grown_of (hc _ _)))
    have S2:Aside (SWK enc k w0 blk off d (grow (wr.drewN nq) osq)):=S1.out.grown nq osq
    clear la lb hc S1
    generalize grow (wr.drewN nq) osq=w2 at S2 ⊢
    clear nq osq
    go_wp2
    go_roundg (r-(c+1))
    case measure=>omega
    case rel=>exact⟨c+1,r,by go_num,rfl,by omega,by omega,hr0,Nat.le_refl _,S2,hst,HH⟩
  ·obtain rfl:s=r:=by omega
   have hltz:¬(s:Int)<(s:Int):=by omega
   have gg:=G.out
   obtain⟨e,ee⟩:∃ e,nn-s=e:=⟨_,rfl⟩
   have ze:(nn:Int)-(s:Int)=(e:Int):=by omega
   have has:a≤s:=by omega
   have hsm:s≤m:=by omega
   have hsd:s≤mid:=by omega
   have heb:e≤b:=by omega
   have hme:m≤e:=by omega
   have hde:mid≤e:=by omega
   have hes:e+s=mid+m:=by omega
   have ham2:a<mid∧mid<b:=by omega
   have hmm:m≤mid:=by omega
   have cutF:Aside (∀ d1:Array Nat,Rot s m e d d1→Cut sc d1 a s mid e b):=fun d1 h=>by
    have hl:=HL.out
    have hh:=HH.out
    have e1:e=mid+m-s:=by omega
    have e2:nn-s=mid+m-s:=by omega
    rw[e2] at hl hh
    subst e1
    refine cut_of HT.out has hsm hsd heb ?_ ?_ h
    ·rcases hl with hl|hl
     ·left;omega
     ·by_cases hc:mid+m-s<b
      ·exact .inr ⟨hc,hl⟩
      ·left;omega
    ·rcases hh with hh|hh
     ·left;omega
     ·exact .inr hh
   have crot:Aside (∀ W,SWK enc k w0 blk off d W→s<m→m<e→Calls P 210 #[.slice (some ⟨blk,off,none⟩) d.size cap,.int .i64 s,.int .i64 m,.int .i64 e,.func (.func g) #[] cb] W fun x w'=>x=.returned (.tuple #[])∧∃ d1:Array Nat,d1.size=d.size∧Hid (Cut sc d1 a s mid e b)∧Mv a b d d1∧Aside (SWK enc k w0 blk off d1 w')):=fun W h1 h2 h3 =>
    (rot.out W s m e h1 h2 h3 (by omega)).mono fun x w' ⟨h4,dF,h5,h6,h7⟩=>⟨h4,dF,h5,cutF.out dF h6,(h6.mv h5 (by omega) (by omega)).mono has heb,h7⟩
   have cm1:Aside (∀ W (d1:Array Nat),d1.size=d.size→Cut sc d1 a s mid e b→SWK enc k w0 blk off d1 W→a<s→s<mid→Calls P 189 #[.slice (some ⟨blk,off,none⟩) d.size cap,.int .i64 a,.int .i64 s,.int .i64 mid,.func (.func g) #[] cb] W fun x w'=>x=.returned (.tuple #[])∧∃ d2:Array Nat,Mv a mid d1 d2∧Srt sc d2 a mid∧Aside (SWK enc k w0 blk off d2 w')):=fun W d1 h1 h2 h3 h4 h5 =>
    IH.out a s mid d1 W (by omega) h1 h3 h4 h5 (by omega) h2.first
   have cm2:Aside (∀ W (d1 d2:Array Nat),d1.size=d.size→Cut sc d1 a s mid e b→Mv a mid d1 d2→SWK enc k w0 blk off d2 W→mid<e→e<b→Calls P 189 #[.slice (some ⟨blk,off,none⟩) d.size cap,.int .i64 mid,.int .i64 e,.int .i64 b,.func (.func g) #[] cb] W fun x w'=>x=.returned (.tuple #[])∧∃ d3:Array Nat,Mv mid b d2 d3∧Srt sc d3 mid b∧Aside (SWK enc k w0 blk off d3 w')):=fun W d1 d2 h1 h2 h3 h4 h5 h6 =>
    IH.out mid e b d2 W (by omega) (h3.size.trans h1) h4 h5 h6 hb (h2.second.moved h3 (by omega) (by omega) (by omega))
   clear gg ee
   rcases (show (s=m∧s<mid)∨(s=m∧s=mid)∨(m≠e∧s≠m∧a≠s∧e≠b)∨(m≠e∧s≠m∧a=s∧e≠b)∨(m≠e∧s≠m∧a≠s∧e=b)∨(m≠e∧s≠m∧a=s∧e=b) by omega) with hw|hw|hw|hw|hw|hw
   ·-- no rotation,the first pair
    have u1:¬(s:Int)<(m:Int):=by omega
    have u3:(a:Int)<(s:Int):=by omega
    have u4:(s:Int)<(mid:Int):=by omega
    have u5:¬(mid:Int)<(e:Int):=by omega
    clear hw hes
    obtain⟨d1,hs1,hC,m1,S2⟩:∃ d1:Array Nat,d1.size=d.size∧Hid (Cut sc d1 a s mid e b)∧Mv a b d d1∧Aside (SWK enc k w0 blk off d1 wr):=⟨d,rfl,cutF.out d (fun x=>by rw[rot_none (by omega) hsm (by omega)]),Mv.refl _ _ _,S1⟩
    clear HL HH cutF
    go_wp2_with (first
     | (go_at_fn 189;refine (cm1.out _ _ hs1 hC.out S2.out (by omega) (by omega)).mono ?_;rintro _ w3 ⟨rfl,d2,m2,q2,S3⟩;clear cm1;obtain⟨d3,m3,q3,S4⟩:∃ d3:Array Nat,Mv mid b d2 d3∧Srt sc d3 mid b∧Aside (SWK enc k w0 blk off d3 _):=⟨d2,Mv.refl _ _ _,(hC.out.second.moved m2 (by omega) (by omega) (by omega)).none (by omega) (by omega) (by omega),S3⟩))
    go_end0
    exact⟨rfl,d3,(m1.trans (m2.mono (by omega) (by omega))).trans (m3.mono (by omega) (by omega)),hC.out.join m2 q2 m3 q3,S4.out⟩
   ·-- no rotation,no pair
    have u1:¬(s:Int)<(m:Int):=by omega
    have u3:(a:Int)<(s:Int):=by omega
    have u4:¬(s:Int)<(mid:Int):=by omega
    have u5:¬(mid:Int)<(e:Int):=by omega
    clear hw hes
    obtain⟨d1,hs1,hC,m1,S2⟩:∃ d1:Array Nat,d1.size=d.size∧Hid (Cut sc d1 a s mid e b)∧Mv a b d d1∧Aside (SWK enc k w0 blk off d1 wr):=⟨d,rfl,cutF.out d (fun x=>by rw[rot_none (by omega) hsm (by omega)]),Mv.refl _ _ _,S1⟩
    obtain⟨d2,m2,q2,S3⟩:∃ d2:Array Nat,Mv a mid d1 d2∧Srt sc d2 a mid∧Aside (SWK enc k w0 blk off d2 _):=⟨d1,Mv.refl _ _ _,hC.out.first.none (by omega) (by omega) (by omega),S2⟩
    obtain⟨d3,m3,q3,S4⟩:∃ d3:Array Nat,Mv mid b d2 d3∧Srt sc d3 mid b∧Aside (SWK enc k w0 blk off d3 _):=⟨d2,Mv.refl _ _ _,(hC.out.second.moved m2 (by omega) (by omega) (by omega)).none (by omega) (by omega) (by omega),S3⟩
    clear HL HH cutF
    go_wp2
    go_end0
    exact⟨rfl,d3,(m1.trans (m2.mono (by omega) (by omega))).trans (m3.mono (by omega) (by omega)),hC.out.join m2 q2 m3 q3,S4.out⟩
   ·-- rotation,go go
    have u1:(s:Int)<(m:Int):=by omega
    have u2:(m:Int)<(e:Int):=by omega
    have u3:(a:Int)<(s:Int):=by omega
    have u4:(s:Int)<(mid:Int):=by omega
    have u5:(mid:Int)<(e:Int):=by omega
    have u6:(e:Int)<(b:Int):=by omega
    clear hw hes
    clear HL HH cutF
    go_wp2_with (first
     | (go_at_fn 210;refine (crot.out _ S1.out (by omega) (by omega)).mono ?_;rintro _ w2 ⟨rfl,d1,hs1,hC,m1,S2⟩)
     | (go_at_fn 189;refine (cm1.out _ _ hs1 hC.out S2.out (by omega) (by omega)).mono ?_;rintro _ w3 ⟨rfl,d2,m2,q2,S3⟩;clear cm1)
     | (go_at_fn 189;refine (cm2.out _ _ _ hs1 hC.out m2 S3.out (by omega) (by omega)).mono ?_;rintro _ w4 ⟨rfl,d3,m3,q3,S4⟩))
    go_end0
    exact⟨rfl,d3,(m1.trans (m2.mono (by omega) (by omega))).trans (m3.mono (by omega) (by omega)),hC.out.join m2 q2 m3 q3,S4.out⟩
   ·-- rotation,as go
    have u1:(s:Int)<(m:Int):=by omega
    have u2:(m:Int)<(e:Int):=by omega
    have u3:¬(a:Int)<(s:Int):=by omega
    have u5:(mid:Int)<(e:Int):=by omega
    have u6:(e:Int)<(b:Int):=by omega
    clear hw hes
    clear HL HH cutF
    go_wp2_with (first
     | (go_at_fn 210;refine (crot.out _ S1.out (by omega) (by omega)).mono ?_;rintro _ w2 ⟨rfl,d1,hs1,hC,m1,S2⟩;obtain⟨d2,m2,q2,S3⟩:∃ d2:Array Nat,Mv a mid d1 d2∧Srt sc d2 a mid∧Aside (SWK enc k w0 blk off d2 _):=⟨d1,Mv.refl _ _ _,hC.out.first.none (by omega) (by omega) (by omega),S2⟩)
     | (go_at_fn 189;refine (cm2.out _ _ _ hs1 hC.out m2 S3.out (by omega) (by omega)).mono ?_;rintro _ w4 ⟨rfl,d3,m3,q3,S4⟩))
    go_end0
    exact⟨rfl,d3,(m1.trans (m2.mono (by omega) (by omega))).trans (m3.mono (by omega) (by omega)),hC.out.join m2 q2 m3 q3,S4.out⟩
   ·-- rotation,go eb
    have u1:(s:Int)<(m:Int):=by omega
    have u2:(m:Int)<(e:Int):=by omega
    have u3:(a:Int)<(s:Int):=by omega
    have u4:(s:Int)<(mid:Int):=by omega
    have u5:(mid:Int)<(e:Int):=by omega
    have u6:¬(e:Int)<(b:Int):=by omega
    clear hw hes
    clear HL HH cutF
    go_wp2_with (first
     | (go_at_fn 210;refine (crot.out _ S1.out (by omega) (by omega)).mono ?_;rintro _ w2 ⟨rfl,d1,hs1,hC,m1,S2⟩)
     | (go_at_fn 189;refine (cm1.out _ _ hs1 hC.out S2.out (by omega) (by omega)).mono ?_;rintro _ w3 ⟨rfl,d2,m2,q2,S3⟩;clear cm1;obtain⟨d3,m3,q3,S4⟩:∃ d3:Array Nat,Mv mid b d2 d3∧Srt sc d3 mid b∧Aside (SWK enc k w0 blk off d3 _):=⟨d2,Mv.refl _ _ _,(hC.out.second.moved m2 (by omega) (by omega) (by omega)).none (by omega) (by omega) (by omega),S3⟩))
    go_end0
    exact⟨rfl,d3,(m1.trans (m2.mono (by omega) (by omega))).trans (m3.mono (by omega) (by omega)),hC.out.join m2 q2 m3 q3,S4.out⟩
   ·-- rotation,as eb
    have u1:(s:Int)<(m:Int):=by omega
    have u2:(m:Int)<(e:Int):=by omega
    have u3:¬(a:Int)<(s:Int):=by omega
    have u5:(mid:Int)<(e:Int):=by omega
    have u6:¬(e:Int)<(b:Int):=by omega
    clear hw hes
    clear HL HH cutF
    go_wp2_with (first
     | (go_at_fn 210;refine (crot.out _ S1.out (by omega) (by omega)).mono ?_;rintro _ w2 ⟨rfl,d1,hs1,hC,m1,S2⟩;obtain⟨d2,m2,q2,S3⟩:∃ d2:Array Nat,Mv a mid d1 d2∧Srt sc d2 a mid∧Aside (SWK enc k w0 blk off d2 _):=⟨d1,Mv.refl _ _ _,hC.out.first.none (by omega) (by omega) (by omega),S2⟩;obtain⟨d3,m3,q3,S4⟩:∃ d3:Array Nat,Mv mid b d2 d3∧Srt sc d3 mid b∧Aside (SWK enc k w0 blk off d3 _):=⟨d2,Mv.refl _ _ _,(hC.out.second.moved m2 (by omega) (by omega) (by omega)).none (by omega) (by omega) (by omega),S3⟩))
    go_end0
    exact⟨rfl,d3,(m1.trans (m2.mono (by omega) (by omega))).trans (m3.mono (by omega) (by omega)),hC.out.join m2 q2 m3 q3,S4.out⟩
end
section
open Go.Shelf Go.RowKit Go.Lib Go.Sort
variable {P:Program}{k:Nat}
theorem symMerge_call (L : SrtP P k) (enc : Nat → List Value) (cf : Nat → Nat → Int) (sc : Nat → Int) (hcf : ∀ x y, cf x y < 0 ↔ sc y < sc x) (g : Nat) (cb : Array Value) (blk off cap : Nat) (d0 : Array Nat) (w0 : World)
    (eg : ∀ args w, (callFunc g args).run P w = .ok (.enter g args) w) (hcmp : CmpLays P g cb enc k cf blk off d0.size w0) (R : RowK enc k w0 blk off d0) (hsz : d0.size < 1099511627776) :
    ∀ (N a m b : Nat) (d : Array Nat) (w : World), b - a ≤ N → d.size = d0.size → SWK enc k w0 blk off d w → a < m → m < b → b ≤ d0.size → Two sc d a m b →
    Calls P 189 #[.slice (some ⟨blk, off, none⟩) d0.size cap, .int .i64 a, .int .i64 m, .int .i64 b, .func (.func g) #[] cb] w fun e w' => e = .returned (.tuple #[]) ∧ ∃ dF : Array Nat, Mv a b d dF ∧ Srt sc dF a b ∧ SWK enc k w0 blk off dF w' := by
  intro N
  induction N with
  | zero => intro a m b d w h1 h2 h3 h4 h5; omega
  | succ N ih =>
    intro a m b d w hN hs S ham hmb hb hT
    by_cases h1 : m = a + 1
    · have := symUp_call L enc cf sc hcf g cb blk off cap a m b d0 d w0 w eg hcmp R hs.symm S ham hmb (by omega) (by omega) hT h1
      rwa [hs] at this
    · by_cases h2 : b = m + 1
      · have := symDn_call L enc cf sc hcf g cb blk off cap a m b d0 d w0 w eg hcmp R hs.symm S ham hmb (by omega) (by omega) hT h2 (by omega)
        rwa [hs] at this
      · have ih' : ∀ (a' m' b' : Nat) (d' : Array Nat) (W : World), b' - a' < b - a → d'.size = d.size → SWK enc k w0 blk off d' W → a' < m' → m' < b' → b' ≤ d.size → Two sc d' a' m' b' →
            Calls P 189 #[.slice (some ⟨blk, off, none⟩) d.size cap, .int .i64 a', .int .i64 m', .int .i64 b', .func (.func g) #[] cb] W fun e w' => e = .returned (.tuple #[]) ∧ ∃ dF : Array Nat, Mv a' b' d' dF ∧ Srt sc dF a' b' ∧ SWK enc k w0 blk off dF w' := fun a' m' b' d' W i1 i2 i3 i4 i5 i6 i7 => by
          rw [hs]
          exact ih a' m' b' d' W (by omega) (by omega) i3 i4 i5 (by omega) i7
        by_cases h3 : (a + b) / 2 < m
        · have := symHi_call L enc cf sc hcf g cb blk off cap a m b d0 d w0 w eg hcmp R hs.symm S ham hmb (by omega) (by omega) hT (by omega) (by omega) ih' h3
          rwa [hs] at this
        · have := symLo_call L enc cf sc hcf g cb blk off cap a m b d0 d w0 w eg hcmp R hs.symm S ham hmb (by omega) (by omega) hT (by omega) (by omega) ih' (by omega)
          rwa [hs] at this
set_option maxRecDepth 1000000 in
theorem stable_call (L:SrtP P k)(enc:Nat→List Value)(cf:Nat→Nat→Int)(sc:Nat→Int)(hcf:∀ x y,cf x y<0↔sc y<sc x)(g:Nat)(cb:Array Value)(blk off cap n:Nat)(d:Array Nat)(w0:World)
  (eg:∀ args w,(callFunc g args).run P w=.ok (.enter g args) w) (hcmp:CmpLays P g cb enc k cf blk off d.size w0) (R:RowK enc k w0 blk off d) (hn:d.size=n) (hsz:n<1099511627776) (hO:EqO sc d 0 n) :
  Calls P 152 #[.slice (some ⟨blk,off,none⟩) n cap,.int .i64 n,.func (.func g) #[] cb] w0 fun e w'=>e=.returned (.tuple #[])∧∃ dF:Array Nat,Mv 0 n d dF∧Srt sc dF 0 n∧SWK enc k w0 blk off dF w':=by
 have mixed:=L.mixed;have t0:=L.t0;have a0:=L.a0;have z0:=L.z0;have v0:=L.v0;have t3:=L.t3;have a3:=L.a3;have z3:=L.z3;have v3:=L.v3;have t4:=L.t4;have a4:=L.a4;have z4:=L.z4;have v4:=L.v4;have t51:=L.t51;have a51:=L.a51;have z51:=L.z51;have v51:=L.v51;have t57:=L.t57;have a57:=L.a57;have z57:=L.z57;have v57:=L.v57
 have FG:=L.f35
 have e42:∀ args w,(callFunc 188 args).run P w=.ok (.enter 188 args) w:=enters_of L.f42 (by decide) rfl
 have e43:∀ args w,(callFunc 189 args).run P w=.ok (.enter 189 args) w:=enters_of L.f43 (by decide) rfl
 have ins:Aside (∀ (W:World) (dk:Array Nat) (a b:Nat),beHeld sc n d dk→SWK enc k w0 blk off dk W→a≤b→b≤n →
   Calls P 188 #[.slice (some ⟨blk,off,none⟩) n cap,.int .i64 a,.int .i64 b,.func (.func g) #[] cb] W fun e w'=>e=.returned (.tuple #[])∧∃ dF:Array Nat,Hid (Mv a b dk dF∧Srt sc dF a b∧beHeld sc n d dF)∧Aside (SWK enc k w0 blk off dF w')):=fun W dk a b h1 h2 h3 h4=>by
  have c:=insertion_call L enc cf sc hcf g cb blk off cap a b d dk w0 W eg hcmp R h1.mv.size.symm h2 h3 (by rw[h1.mv.size];omega) (by rw[h1.mv.size];omega) (h1.eqo.cut (Nat.zero_le _) h4)
  rw[h1.mv.size,hn] at c
  exact c.mono fun e w' ⟨i1,dF,i2,i3,i4⟩=>⟨i1,dF,⟨i2,i3,h1.step i2 i3 h4⟩,i4⟩
 have mrg:Aside (∀ (W:World) (dk:Array Nat) (a m b:Nat),beHeld sc n d dk→SWK enc k w0 blk off dk W→a<m→m<b→b≤n→Srt sc dk a m→Srt sc dk m b →
   Calls P 189 #[.slice (some ⟨blk,off,none⟩) n cap,.int .i64 a,.int .i64 m,.int .i64 b,.func (.func g) #[] cb] W fun e w'=>e=.returned (.tuple #[])∧∃ dF:Array Nat,Hid (Mv a b dk dF∧Srt sc dF a b∧beHeld sc n d dF)∧Aside (SWK enc k w0 blk off dF w')):=fun W dk a m b h1 h2 h3 h4 h5 h6 h7=>by
  have c:=symMerge_call L enc cf sc hcf g cb blk off cap d w0 eg hcmp R (by omega) (b-a) a m b dk W (Nat.le_refl _) h1.mv.size h2 h3 h4 (by omega) (Two.of h1.eqo h6 h7 h5)
  rw[hn] at c
  exact c.mono fun e w' ⟨i1,dF,i2,i3,i4⟩=>⟨i1,dF,⟨i2,i3,h1.step i2 i3 h5⟩,i4⟩
 have S0:Aside (SWK enc k w0 blk off d w0):=SWK.start R.hH
 have H0:Hid (beHeld sc n d d):=⟨Mv.refl _ _ _,hO⟩
 clear hcmp hcf hO L hn R
 go_enter FG,Tryz.ntmps152
 go_wp2
 go_loopg [7,8] n (fun kx s7 s8 wr=>∃ (p q:Nat) (dk:Array Nat),s7=.int .i64 p∧s8=.int .i64 q∧p≤n∧q≤n+20∧n-p≤kx∧Hid (q=p+20∧20 ∣ p)∧Hid (beHeld sc n d dk∧BlkTo sc 20 dk p)∧Aside (SWK enc k w0 blk off dk wr))
 case atStart=>exact⟨0,20,d,rfl,rfl,Nat.zero_le _,by omega,by omega,⟨rfl,Nat.dvd_zero _⟩,⟨H0.out,fun i j h1 h2=>by omega⟩,S0⟩
 case round =>
  clear S0 H0
  obtain⟨p,q,dk,rfl,rfl,hpn,hqn,hkx,HQ,HB,S1⟩:=hrel
  by_cases hlt:q≤n
  ·have hltz:(q:Int)≤(n:Int):=by omega
   have hpq:p<q:=by have:=HQ.out;omega
   have c:=ins.out wr dk p q HB.out.1 S1.out (by omega) hlt
   obtain⟨q2,eq2⟩:∃ q2,q+20=q2:=⟨_,rfl⟩
   have zq2:(q:Int)+20=(q2:Int):=by omega
   have HQ2:Hid (q2=q+20∧20 ∣ q):=⟨eq2.symm,by have h:=HQ.out;rw[h.1];exact Nat.dvd_add h.2 (Nat.dvd_refl _)⟩
   have HP:Hid (20 ∣ p):=HQ.out.2
   have hq2:q2≤n+20:=by omega
   clear S1 eq2 HQ
   go_wp2_with (go_at_fn 188;refine c.mono ?_;rintro e w2 ⟨rfl,dF,HF,S2⟩)
   go_roundg (n-q)
   case measure=>omega
   case rel=>exact⟨q,q2,dF,rfl,rfl,hlt,hq2,Nat.le_refl _,HQ2,⟨HF.out.2.2,HB.out.2.step HP.out HF.out.1 HF.out.2.1⟩,S2⟩
  ·have hltz:¬(q:Int)≤(n:Int):=by omega
   have c:=ins.out wr dk p n HB.out.1 S1.out hpn (Nat.le_refl _)
   have HP:Hid (20 ∣ p):=HQ.out.2
   clear S1 HQ
   go_wp2_with (go_at_fn 188;refine c.mono ?_;rintro e w2 ⟨rfl,dF,HF,S2⟩)
   have HB2:Hid (beHeld sc n d dF∧BlkTo sc 20 dF n):=⟨HF.out.2.2,HB.out.2.step HP.out HF.out.1 HF.out.2.1⟩
   clear HB HF HP c hltz hlt
   go_loopg [6,7,8] (n-20) (fun kx s6 s7 s8 wr=>∃ (s:Nat) (dk:Array Nat),s6=.int .i64 s∧0<s∧s≤n+n+20∧n-s≤kx∧Hid (beHeld sc n d dk∧BlkTo sc s dk n)∧Aside (SWK enc k w0 blk off dk wr))
   case atStart=>exact⟨20,dF,rfl,by omega,by omega,Nat.le_refl _,HB2,S2⟩
   case round =>
    clear S2 HB2
    obtain⟨s,dk,rfl,hs,hsn,hkx,HB,S1⟩:=hrel
    by_cases hlt:s<n
    ·have hltz:(s:Int)<(n:Int):=by omega
     obtain⟨s2,es2⟩:∃ s2,2*s=s2:=⟨_,rfl⟩
     have zs2:2*(s:Int)=(s2:Int):=by omega
     have zs2':(s:Int)*2=(s2:Int):=by omega
     have hs2:s<s2∧s2≤n+n:=by omega
     have HS:Hid (2*s=s2):=es2
     clear es2
     go_wp2
     go_loopg [7,8] n (fun kx s7 s8 wr=>∃ (p q:Nat) (dk:Array Nat),s7=.int .i64 p∧s8=.int .i64 q∧p≤n∧q≤n+s2∧n-p≤kx∧Hid (q=p+s2∧s2 ∣ p)∧Hid (beHeld sc n d dk∧BlkTo sc s2 dk p∧BlkFrom sc s dk p n)∧Aside (SWK enc k w0 blk off dk wr))
     case atStart=>exact⟨0,s2,dk,rfl,rfl,Nat.zero_le _,by omega,by omega,⟨by omega,Nat.dvd_zero _⟩,⟨HB.out.1,fun i j h1 h2=>by omega,HB.out.2.from_⟩,S1⟩
     case round =>
      clear S1 HB
      obtain⟨p,q,dk,rfl,rfl,hpn,hqn,hkx,HQ,HB,S1⟩:=hrel
      obtain⟨m,em⟩:∃ m,p+s=m:=⟨_,rfl⟩
      have zm:(p:Int)+(s:Int)=(m:Int):=by omega
      have hpq:p<m∧m<q:=by have:=HQ.out;have:=HS.out;omega
      have DV:Hid (s ∣ p∧s ∣ m):=by
       have h1:s ∣ p:=Nat.dvd_trans ⟨2,by have:=HS.out;omega⟩ HQ.out.2
       exact⟨h1,by rw[←em];exact Nat.dvd_add h1 (Nat.dvd_refl _)⟩
      by_cases hlt2:q≤n
      ·have hltz2:(q:Int)≤(n:Int):=by omega
       have c:=mrg.out wr dk p m q HB.out.1 S1.out hpq.1 hpq.2 hlt2 (HB.out.2.2.srt hs DV.out.1 (Nat.le_refl _) (by omega) (by omega)) (HB.out.2.2.srt hs DV.out.2 (by omega) (by have:=HQ.out;have:=HS.out;omega) hlt2)
       obtain⟨q2,eq2⟩:∃ q2,q+s2=q2:=⟨_,rfl⟩
       have zq2:(q:Int)+(s2:Int)=(q2:Int):=by omega
       have HQ2:Hid (q2=q+s2∧s2 ∣ q):=⟨eq2.symm,by have h:=HQ.out;rw[h.1];exact Nat.dvd_add h.2 (Nat.dvd_refl _)⟩
       have HP:Hid (s2 ∣ p):=HQ.out.2
       have hq2:q2≤n+s2:=by omega
       clear S1 eq2 HQ em DV
       go_wp2_with (go_at_fn 189;refine c.mono ?_;rintro e w2 ⟨rfl,dF,HF,S2⟩)
       go_roundg (n-q)
       case measure=>omega
       case rel=>exact⟨q,q2,dF,rfl,rfl,hlt2,hq2,Nat.le_refl _,HQ2,⟨HF.out.2.2,HB.out.2.1.step HP.out HF.out.1 HF.out.2.1,HB.out.2.2.moved HF.out.1 (by omega)⟩,S2⟩
      ·have hltz2:¬(q:Int)≤(n:Int):=by omega
       have hqs:q≤m+s:=by have:=HQ.out;have:=HS.out;omega
       have HP:Hid (s2 ∣ p):=HQ.out.2
       by_cases hmn:m<n
       ·have hmnz:(m:Int)<(n:Int):=by omega
        have c:=mrg.out wr dk p m n HB.out.1 S1.out hpq.1 hmn (Nat.le_refl _) (HB.out.2.2.srt hs DV.out.1 (Nat.le_refl _) (by omega) (by omega)) (HB.out.2.2.srt hs DV.out.2 (by omega) (by omega) (Nat.le_refl _))
        clear S1 HQ em DV
        go_wp2_with (go_at_fn 189;refine c.mono ?_;rintro e w2 ⟨rfl,dF,HF,S2⟩)
        go_roundg (n-s2)
        case measure=>omega
        case rel=>exact⟨s2,dF,rfl,by omega,by omega,Nat.le_refl _,⟨HF.out.2.2,HB.out.2.1.step HP.out HF.out.1 HF.out.2.1⟩,S2⟩
       ·have hmnz:¬(m:Int)<(n:Int):=by omega
        have HB2:Hid (beHeld sc n d dk∧BlkTo sc s2 dk n):=⟨HB.out.1,HB.out.2.1.step HP.out (Mv.refl _ _ _) (HB.out.2.2.srt hs DV.out.1 (Nat.le_refl _) (by omega) (Nat.le_refl _))⟩
        clear HQ em DV HB
        go_wp2
        go_roundg (n-s2)
        case measure=>omega
        case rel=>exact⟨s2,dk,rfl,by omega,by omega,Nat.le_refl _,HB2,S1⟩
    ·have hltz:¬(s:Int)<(n:Int):=by omega
     go_wp2
     go_end0
     exact⟨rfl,dk,HB.out.1.mv,HB.out.2.all (by omega),S1.out⟩
end
end Go.Proofs.YtbkjhfmehemgpaaGreat

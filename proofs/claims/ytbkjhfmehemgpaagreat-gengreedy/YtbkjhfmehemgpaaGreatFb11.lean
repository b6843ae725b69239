/- Texts put together. -/
import Derived.Test.YtbkjhfmehemgpaaGreatFb5
import Derived.Test.YtbkjhfmehemgpaaGreatFb0
import Derived.Test.YtbkjhfmehemgpaaGreatFb1
import Derived.Deep.LoopGhost
import Derived.Shelf.SlSortCmp.KitK
import Derived.Sort.WalkB12
import Derived.Sort.WalkB2
import Derived.Lib.MinMax
namespace Go.Proofs.YtbkjhfmehemgpaaGreat
set_option maxRecDepth 20000
set_option maxHeartbeats 16000000
open Go.ChangeShapes Go.WideShapes Go.ChangeAt Go.RowKit
set_option linter.unusedVariables false
set_option linter.unusedSimpArgs false
section
open Go.Shelf Go.RowKit Go.Lib Go.Sort
structure SrtP (P:Program) (k:Nat):Prop where
 mixed:P.follows .mixedOrders=true
 f35:P.funcs[152]? = some Tryz.f152
 f42:P.funcs[188]? = some Tryz.f188
 f43:P.funcs[189]? = some Tryz.f189
 f44:P.funcs[210]? = some Tryz.f210
 f45:P.funcs[230]? = some Tryz.f230
 t0:P.underlying 0=some (TypeDesc.tuple #[])
 a0:∀ w,(isAgg 0).run P w=.ok false w
 z0:∀ w,(Go.sizeOf 0).run P w=.ok 1 w
 v0:∀ w,(zeroValue 0).run P w=.ok (Value.tuple #[]) w
 t3:P.underlying 3=some (TypeDesc.int IntKind.i64)
 a3:∀ w,(isAgg 3).run P w=.ok false w
 z3:∀ w,(Go.sizeOf 3).run P w=.ok 1 w
 v3:∀ w,(zeroValue 3).run P w=.ok (Value.int IntKind.i64 0) w
 t4:P.underlying 4=some (TypeDesc.bool)
 a4:∀ w,(isAgg 4).run P w=.ok false w
 z4:∀ w,(Go.sizeOf 4).run P w=.ok 1 w
 v4:∀ w,(zeroValue 4).run P w=.ok (Value.bool false) w
 t51:P.underlying 160=some (TypeDesc.slice 164)
 a51:∀ w,(isAgg 160).run P w=.ok false w
 z51:∀ w,(Go.sizeOf 160).run P w=.ok 1 w
 v51:∀ w,(zeroValue 160).run P w=.ok (Value.slice none 0 0) w
 t57:P.underlying 166=some (TypeDesc.func #[164,164] #[3] false)
 a57:∀ w,(isAgg 166).run P w=.ok false w
 z57:∀ w,(Go.sizeOf 166).run P w=.ok 1 w
 v57:∀ w,(zeroValue 166).run P w=.ok (Value.nilFunc) w
 t74:P.underlying 111=some (TypeDesc.int IntKind.u64)
 a74:∀ w,(isAgg 111).run P w=.ok false w
 z74:∀ w,(Go.sizeOf 111).run P w=.ok 1 w
 v74:∀ w,(zeroValue 111).run P w=.ok (Value.int IntKind.u64 0) w
 aE:∀ w,(isAgg 164).run P w=.ok true w
 zE:∀ w,(Go.sizeOf 164).run P w=.ok k w
theorem srtTry:SrtP Tryz.prog 5 where
 mixed:=by kernel_rfl
 f35:=Tryz.func152
 f42:=Tryz.func188
 f43:=Tryz.func189
 f44:=Tryz.func210
 f45:=Tryz.func230
 t0:=Tryz.underlying0
 a0:=Tryz.isAgg0
 z0:=Tryz.sizeOf0
 v0:=Tryz.zeroValue0
 t3:=Tryz.underlying3
 a3:=Tryz.isAgg3
 z3:=Tryz.sizeOf3
 v3:=Tryz.zeroValue3
 t4:=Tryz.underlying4
 a4:=Tryz.isAgg4
 z4:=Tryz.sizeOf4
 v4:=Tryz.zeroValue4
 t51:=Tryz.underlying160
 a51:=Tryz.isAgg160
 z51:=Tryz.sizeOf160
 v51:=Tryz.zeroValue160
 t57:=Tryz.underlying166
 a57:=Tryz.isAgg166
 z57:=Tryz.sizeOf166
 v57:=Tryz.zeroValue166
 t74:=Tryz.underlying111
 a74:=Tryz.isAgg111
 z74:=Tryz.sizeOf111
 v74:=Tryz.zeroValue111
 aE:=Tryz.isAgg164
 zE:=Tryz.sizeOf164
variable {P:Program}{k:Nat}
set_option maxRecDepth 1000000 in
theorem swapRange_call (L:SrtP P k)(enc:Nat→List Value)(g:Nat)(cb:Array Value)(blk off cap a b n:Nat)(d0 d:Array Nat)(w0 w:World)
  (R:RowK enc k w0 blk off d0) (hs:d0.size=d.size) (S:SWK enc k w0 blk off d w) (hab:a+n≤b) (hb:b+n≤d.size) (hsz:d.size<1099511627776) :
  Calls P 230 #[.slice (some ⟨blk,off,none⟩) d.size cap,.int .i64 a,.int .i64 b,.int .i64 n,.func (.func g) #[] cb] w fun e w'=>e=.returned (.tuple #[])∧SWK enc k w0 blk off (swR d a b n) w':=by
 have mixed:=L.mixed;have t0:=L.t0;have a0:=L.a0;have z0:=L.z0;have v0:=L.v0;have t3:=L.t3;have a3:=L.a3;have z3:=L.z3;have v3:=L.v3;have t4:=L.t4;have a4:=L.a4;have z4:=L.z4;have v4:=L.v4;have t51:=L.t51;have a51:=L.a51;have z51:=L.z51;have v51:=L.v51;have t57:=L.t57;have a57:=L.a57;have z57:=L.z57;have v57:=L.v57;have aE:=L.aE;have zE:=L.zE
 have FG:=L.f45
 have S0:Aside (SWK enc k w0 blk off d w):=S
 clear S L
 go_enter FG,Tryz.ntmps230
 go_wp2
 go_loopg [10] n (fun kx s10 wr=>∃ (i:Nat),s10=.int .i64 i∧i≤n∧n-i≤kx∧Aside (SWK enc k w0 blk off (swR d a b i) wr))
 case atStart=>exact⟨0,rfl,Nat.zero_le _,by omega,S0⟩
 case round =>
  clear S0
  obtain⟨i,rfl,hi,hkx,S1⟩:=hrel
  by_cases hlt:i<n
  ·have hltz:(i:Int)<(n:Int):=by omega
   have hsk:=swR_size d a b i
   obtain⟨dk,edk⟩:∃ dk,swR d a b i=dk:=⟨_,rfl⟩
   have enx:swR d a b (i+1)=swp dk (a+i) (b+i):=by rw[←edk];rfl
   rw[edk] at S1 hsk
   obtain⟨p,ep⟩:∃ p,a+i=p:=⟨_,rfl⟩
   obtain⟨q,eq⟩:∃ q,b+i=q:=⟨_,rfl⟩
   rw[ep,eq] at enx
   have EN:Hid (swR d a b (i+1)=swp dk p q):=enx
   have epz:(a:Int)+(i:Int)=(p:Int):=by omega
   have eqz:(b:Int)+(i:Int)=(q:Int):=by omega
   clear edk enx
   have ea:((p:Int)).toNat=p:=by omega
   have pa:(0:Int)≤(p:Int):=by omega
   have ba:(p:Int)<(d.size:Int):=by omega
   have ra:IntKind.i64.wrap ((p:Int))=(p:Int):=by rw[IntKind.wrap_i64];omega
   have ec:((q:Int)).toNat=q:=by omega
   have pc:(0:Int)≤(q:Int):=by omega
   have bc:(q:Int)<(d.size:Int):=by omega
   have rc:IntKind.i64.wrap ((q:Int))=(q:Int):=by rw[IntKind.wrap_i64];omega
   have S2:Aside (SWK enc k w0 blk off (swp dk p q) ((wr.drew.setCells blk (off+p*k) (enc dk[q]!)).setCells blk (off+q*k) (enc dk[p]!))):=S1.out.swapped R p q (by omega) (by omega)
   have la:=S1.out.ld1 R (by omega) P p (by omega)
   have lb:=S1.out.ld1 R (by omega) P q (by omega)
   have sa:=S1.out.st1 R (by omega) P p (by omega) dk[q]!
   have sb:=S1.out.st2 R (by omega) P p q (by omega) (by omega) dk[q]! dk[p]!
   have na:(enc dk[p]!).length=k:=R.hk _
   have nb:(enc dk[q]!).length=k:=R.hk _
   generalize enc dk[p]! = cI at S2 la sb na
   generalize enc dk[q]! = cJ at S2 lb sa sb nb
   clear S1 ep eq
   go_wp2_with fail
   go_big_region_o
   clear la lb sa sb
   generalize (wr.drew.setCells blk (off+p*k) cJ).setCells blk (off+q*k) cI=w2 at S2 ⊢
   go_wp2
   go_roundg (n-(i+1))
   case measure=>omega
   case rel=>exact⟨i+1,by go_num,by omega,Nat.le_refl _,by rw[EN.out];exact S2⟩
  ·obtain rfl:i=n:=by omega
   have hltz:¬(i:Int)<(i:Int):=by omega
   go_wp2
   go_end0
   exact⟨rfl,S1.out⟩
end
section
open Go.Shelf Go.RowKit Go.Lib Go.Sort
variable {P:Program}{k:Nat}
set_option maxRecDepth 1000000 in
theorem insertion_call (L:SrtP P k)(enc:Nat→List Value)(cf:Nat→Nat→Int)(sc:Nat→Int)(hcf:∀ x y,cf x y<0↔sc y<sc x)(g:Nat)(cb:Array Value)(blk off cap a b:Nat)(d0 d:Array Nat)(w0 w:World)
  (eg:∀ args w,(callFunc g args).run P w=.ok (.enter g args) w) (hcmp:CmpLays P g cb enc k cf blk off d0.size w0)
  (R:RowK enc k w0 blk off d0) (hs:d0.size=d.size) (S:SWK enc k w0 blk off d w) (hab:a≤b) (hb:b≤d.size) (hsz:d.size<1099511627776) (hO:EqO sc d a b) :
  Calls P 188 #[.slice (some ⟨blk,off,none⟩) d.size cap,.int .i64 a,.int .i64 b,.func (.func g) #[] cb] w fun e w'=>e=.returned (.tuple #[])∧∃ dF:Array Nat,Mv a b d dF∧Srt sc dF a b∧SWK enc k w0 blk off dF w':=by
 have mixed:=L.mixed;have t0:=L.t0;have a0:=L.a0;have z0:=L.z0;have v0:=L.v0;have t3:=L.t3;have a3:=L.a3;have z3:=L.z3;have v3:=L.v3;have t4:=L.t4;have a4:=L.a4;have z4:=L.z4;have v4:=L.v4;have t51:=L.t51;have a51:=L.a51;have z51:=L.z51;have v51:=L.v51;have t57:=L.t57;have a57:=L.a57;have z57:=L.z57;have v57:=L.v57;have aE:=L.aE;have zE:=L.zE
 have FG:=L.f42
 have HC:Aside _:=hcmp
 have HF:Hid (∀ x y,cf x y<0↔sc y<sc x):=hcf
 have HO:Hid (EqO sc d a b):=hO
 have S0:Aside (SWK enc k w0 blk off d w):=S
 clear hcmp hcf hO S L
 go_enter FG,Tryz.ntmps188
 go_wp2
 go_loopg [8] (b-a) (fun g1 vi wr=>∃ (i:Nat) (dk:Array Nat),vi=.int .i64 i∧a<i∧i≤b+1∧b+1-i≤g1+1∧dk.size=d.size∧Aside (SWK enc k w0 blk off dk wr)∧Hid (Mv a (min i b) d dk∧Srt sc dk a (min i b)))
 case atStart=>exact⟨a+1,d,by go_num,by omega,by omega,by omega,rfl,S0,Mv.refl _ _ _,fun i j h1 h2 h3=>by omega⟩
 case round =>
  clear S0
  obtain⟨i,dk,rfl,hai,hib,hg1,hsk,S1,HM⟩:=hrel
  by_cases hlt:i<b
  ·have hltz:(i:Int)<(b:Int):=by omega
   have hI:Hid (Mv a (i+1) d dk∧Ins sc a i i dk):=by
    have h:=HM.out
    rw[show min i b=i by omega] at h
    refine⟨h.1.mono (Nat.le_refl _) (by omega),Ins.start h.2 fun p q h1 h2 h3 e=>?_⟩
    by_cases hq:q<i
    ·exact h.2.eqO p q h1 h2 hq e
    ·obtain rfl:q=i:=by omega
     obtain⟨y,y1,y2,ey⟩:=h.1.from_ p h1 h2
     rw[ey,h.1.out q (by omega)] at e ⊢
     exact HO.out y q y1 (by omega) hlt e
   clear HM
   go_wp2
   -- the inner loop
   go_loopg [9] i (fun g2 vj wr2=>∃ (j:Nat) (dj:Array Nat),vj=.int .i64 j∧a≤j∧j≤i∧j≤g2∧dj.size=d.size∧Aside (SWK enc k w0 blk off dj wr2)∧Hid (Mv a (i+1) d dj∧Ins sc a j i dj))
   case atStart=>exact⟨i,dk,rfl,by omega,Nat.le_refl _,Nat.le_refl _,hsk,S1,hI⟩
   case round =>
    clear S1 hI
    obtain⟨j,dj,rfl,haj,hji,hg2,hsj,S1,HI⟩:=hrel
    by_cases hja:a<j
    ·obtain⟨jp,rfl⟩:∃ jp,j=jp+1:=⟨j-1,by omega⟩
     have hjaz':(a:Int)<(jp:Int)+1:=by omega
     have ea:((jp:Int)+1).toNat=jp+1:=by omega
     have pa:(0:Int)≤(jp:Int)+1:=by omega
     have ba:(jp:Int)+1<(d.size:Int):=by omega
     have bc:(jp:Int)<(d.size:Int):=by omega
     have rc:IntKind.i64.wrap ((jp:Int))=(jp:Int):=by rw[IntKind.wrap_i64];omega
     obtain⟨x,hx⟩:∃ x,x=dj[jp+1]!:=⟨_,rfl⟩
     obtain⟨y,hy⟩:∃ x,x=dj[jp]!:=⟨_,rfl⟩
     have la:=S1.out.ld R (by omega) P (jp+1) (by omega)
     have lb:=S1.out.ld R (by omega) P jp (by omega)
     rw[←hx] at la
     rw[←hy] at lb
     have hc:=S1.out.cmp HC.out (by omega) x y
     by_cases hlv:cf x y<0
     ·have hd:decide (cf x y<0)=true:=decide_eq_true hlv
      have hst:Hid (Mv a (i+1) d (swp dj (jp+1) jp)∧Ins sc a jp i (swp dj (jp+1) jp)) :=
       ⟨HI.out.1.trans (Mv.swp dj (by omega) (by omega) (by omega) (by omega)),HI.out.2.step (by rw[←hx,←hy];exact (HF.out x y).1 hlv) (by omega) hji (by omega)⟩
      have HX:Hid (x=dj[jp+1]!∧y=dj[jp]!):=⟨hx,hy⟩
      clear hx hy HI
      go_wp2_with fail
      go_quiet_grown (first|(go_at_fn g;refine Calls.grown_of (hc _ _)))
      have S2:Aside (SWK enc k w0 blk off dj (grow (wr.drewN nq) osq)):=S1.out.grown nq osq
      clear la lb hc S1
      generalize grow (wr.drewN nq) osq=w2 at S2 ⊢
      clear nq osq
      go_wp2_with fail
      have S3:Aside (SWK enc k w0 blk off (swp dj (jp+1) jp) ((w2.drew.setCells blk (off+(jp+1)*k) (enc dj[jp]!)).setCells blk (off+jp*k) (enc dj[jp+1]!))):=S2.out.swapped R (jp+1) jp (by omega) (by omega)
      have la:=S2.out.ld1 R (by omega) P (jp+1) (by omega)
      have lb:=S2.out.ld1 R (by omega) P jp (by omega)
      have sa:=S2.out.st1 R (by omega) P (jp+1) (by omega) dj[jp]!
      have sb:=S2.out.st2 R (by omega) P (jp+1) jp (by omega) (by omega) dj[jp]! dj[jp+1]!
      have na:(enc dj[jp+1]!).length=k:=R.hk _
      have nb:(enc dj[jp]!).length=k:=R.hk _
      generalize enc dj[jp+1]! = cI at S3 la sb na
      generalize enc dj[jp]! = cJ at S3 lb sa sb nb
      clear S2
      go_wp2_with fail
      go_big_region_o
      clear la lb sa sb
      generalize (w2.drew.setCells blk (off+(jp+1)*k) cJ).setCells blk (off+jp*k) cI=w3 at S3 ⊢
      go_wp2
      go_roundg jp
      case measure=>omega
      case rel=>exact⟨jp,_,by first|rfl|go_num|(congr 1;omega),by omega,by omega,Nat.le_refl _,by rw[swp_size];exact hsj,S3,hst⟩
     ·have hd:decide (cf x y<0)=false:=decide_eq_false hlv
      have hst:Hid (Mv a (min (i+1) b) d dj∧Srt sc dj a (min (i+1) b)):=by
       rw[show min (i+1) b=i+1 by omega]
       exact⟨HI.out.1,HI.out.2.stop (.inr ⟨jp,rfl,by omega,by rw[←hx,←hy];exact fun h=>hlv ((HF.out x y).2 h)⟩) hji⟩
      clear hx hy HI
      go_wp2_with fail
      go_quiet_grown (first|(go_at_fn g;refine Calls.grown_of (hc _ _)))
      have S2:Aside (SWK enc k w0 blk off dj (grow (wr.drewN nq) osq)):=S1.out.grown nq osq
      clear la lb hc S1
      generalize grow (wr.drewN nq) osq=w2 at S2 ⊢
      clear nq osq
      go_wp2
      go_roundg (b-(i+1))
      case measure=>omega
      case rel=>exact⟨i+1,dj,by go_num,by omega,by omega,by omega,hsj,S2,hst⟩
    ·have hjaz:decide ((j:Int) > (a:Int))=false:=decide_eq_false (by omega)
     have hjaz':¬(a:Int)<(j:Int):=by omega
     have hst:Hid (Mv a (min (i+1) b) d dj∧Srt sc dj a (min (i+1) b)):=by
      rw[show min (i+1) b=i+1 by omega]
      exact⟨HI.out.1,HI.out.2.stop (.inl (by omega)) hji⟩
     have S2:Aside (SWK enc k w0 blk off dj wr.drew):=S1.out.drew
     clear S1 HI
     go_wp2_with fail
     go_big_region_o
     all_goals go_wp2
     go_roundg (b-(i+1))
     case measure=>omega
     case rel=>exact⟨i+1,dj,by go_num,by omega,by omega,by omega,hsj,S2,hst⟩
  ·have hltz:¬(i:Int)<(b:Int):=by omega
   have hst:=HM.out
   rw[show min i b=b by omega] at hst
   go_wp2
   go_end0
   exact⟨rfl,dk,hst.1,hst.2,S1.out⟩
end
section
open Go.Shelf Go.RowKit Go.Lib Go.Sort
variable {P:Program}{k:Nat}
set_option maxRecDepth 1000000 in
theorem symUp_call (L:SrtP P k)(enc:Nat→List Value)(cf:Nat→Nat→Int)(sc:Nat→Int)(hcf:∀ x y,cf x y<0↔sc y<sc x)(g:Nat)(cb:Array Value)(blk off cap a m b:Nat)(d0 d:Array Nat)(w0 w:World)
  (eg:∀ args w,(callFunc g args).run P w=.ok (.enter g args) w) (hcmp:CmpLays P g cb enc k cf blk off d0.size w0)
  (R:RowK enc k w0 blk off d0) (hs:d0.size=d.size) (S:SWK enc k w0 blk off d w) (ham:a<m) (hmb:m<b) (hb:b≤d.size) (hsz:d.size<1099511627776) (hT:Two sc d a m b) (hone:m=a+1) :
  Calls P 189 #[.slice (some ⟨blk,off,none⟩) d.size cap,.int .i64 a,.int .i64 m,.int .i64 b,.func (.func g) #[] cb] w fun e w'=>e=.returned (.tuple #[])∧∃ dF:Array Nat,Mv a b d dF∧Srt sc dF a b∧SWK enc k w0 blk off dF w':=by
 have mixed:=L.mixed;have t0:=L.t0;have a0:=L.a0;have z0:=L.z0;have v0:=L.v0;have t3:=L.t3;have a3:=L.a3;have z3:=L.z3;have v3:=L.v3;have t4:=L.t4;have a4:=L.a4;have z4:=L.z4;have v4:=L.v4;have t51:=L.t51;have a51:=L.a51;have z51:=L.z51;have v51:=L.v51;have t57:=L.t57;have a57:=L.a57;have z57:=L.z57;have v57:=L.v57;have t74:=L.t74;have a74:=L.a74;have z74:=L.z74;have v74:=L.v74;have aE:=L.aE;have zE:=L.zE
 have FG:=L.f43
 have HC:Aside _:=hcmp
 have HF:Hid (∀ x y,cf x y<0↔sc y<sc x):=hcf
 have HT:Hid (Two sc d a m b):=hT
 have S0:Aside (SWK enc k w0 blk off d w):=S
 clear hcmp hcf hT S L
 have t1:(m:Int)-(a:Int)=1:=by omega
 have ea:((a:Nat):Int).toNat=a:=by omega
 have pa:(0:Int)≤((a:Nat):Int):=by omega
 have ba:((a:Nat):Int)<(d.size:Int):=by omega
 have ra:IntKind.i64.wrap (((a:Nat):Int))=((a:Nat):Int):=by rw[IntKind.wrap_i64];omega
 have HN:Hid (m=a+1):=hone
 clear hone
 go_enter FG,Tryz.ntmps189
 go_wp2
 clear t1
 go_loopg [10,11] (b-m) (fun kx s10 s11 wr=>∃ (i j:Nat),s10=.int .i64 i∧s11=.int .i64 j∧m≤i∧i≤j∧j≤b∧j-i≤kx∧Aside (SWK enc k w0 blk off d wr)∧Hid (i=m∨sc d[a]! < sc d[i-1]!)∧Hid (j=b∨¬sc d[a]! < sc d[j]!))
 case atStart=>exact⟨m,b,rfl,rfl,Nat.le_refl _,by omega,Nat.le_refl _,Nat.le_refl _,S0,.inl rfl,.inl rfl⟩
 case round =>
  clear S0
  obtain⟨i,j,rfl,rfl,hmi,hij,hjb,hkx,S1,HL,HH⟩:=hrel
  by_cases hlt:i<j
  ·have hltz:(i:Int)<(j:Int):=by omega
   obtain⟨sm,esm⟩:∃ sm,i+j=sm:=⟨_,rfl⟩
   obtain⟨h,eh⟩:∃ h,sm/2=h:=⟨_,rfl⟩
   have zsm:(i:Int)+(j:Int)=(sm:Int):=by omega
   have zsh:(sm:Int)/2=(h:Int):=by omega
   have us:IntKind.u64.wrap (sm:Int)=(sm:Int):=by rw[IntKind.wrap_u64];omega
   have uh:IntKind.u64.wrap (h:Int)=(h:Int):=by rw[IntKind.wrap_u64];omega
   have hb0:sm<4611686018427387904:=by omega
   have eh:((h:Nat):Int).toNat=h:=by omega
   have ph:(0:Int)≤((h:Nat):Int):=by omega
   have bh:((h:Nat):Int)<(d.size:Int):=by omega
   have rh:IntKind.i64.wrap (((h:Nat):Int))=((h:Nat):Int):=by rw[IntKind.wrap_i64];omega
   obtain⟨vx,hx⟩:∃ v,v=d[h]!:=⟨_,rfl⟩
   obtain⟨vy,hy⟩:∃ v,v=d[a]!:=⟨_,rfl⟩
   have la:=S1.out.ld R (by omega) P h (by omega)
   have lb:=S1.out.ld R (by omega) P a (by omega)
   rw[←hx] at la
   rw[←hy] at lb
   have hc:=S1.out.cmp HC.out (by omega) vx vy
   by_cases hlv:cf vx vy<0
   ·have hd:decide (cf vx vy<0)=true:=decide_eq_true hlv
    have hst:Hid (h+1=m∨sc d[a]! < sc d[h+1-1]!):=.inr (by rw[Nat.add_sub_cancel,←hx,←hy];exact (HF.out vx vy).1 hlv)
    clear hx hy
    go_wp2_with fail
    go_quiet_grown (first|(go_at_fn g;refine Calls.grown_of (hc _ _)))
    have S2:Aside (SWK enc k w0 blk off d (grow (wr.drewN nq) osq)):=S1.out.grown nq osq
    clear la lb hc S1
    generalize grow (wr.drewN nq) osq=w2 at S2 ⊢
    clear nq osq
    go_wp2
    go_roundg (j-(h+1))
    case measure=>omega
    case rel=>exact⟨h+1,j,by go_num,rfl,by omega,by omega,hjb,Nat.le_refl _,S2,hst,HH⟩
   ·have hd:decide (cf vx vy<0)=false:=decide_eq_false hlv
    have hst:Hid (h=b∨¬sc d[a]! < sc d[h]!):=.inr (by rw[←hx,←hy];exact fun hh=>hlv ((HF.out vx vy).2 hh))
    clear hx hy
    go_wp2_with fail
    go_quiet_grown (first|(go_at_fn g;refine Calls.grown_of (hc _ _)))
    have S2:Aside (SWK enc k w0 blk off d (grow (wr.drewN nq) osq)):=S1.out.grown nq osq
    clear la lb hc S1
    generalize grow (wr.drewN nq) osq=w2 at S2 ⊢
    clear nq osq
    go_wp2
    go_roundg (h-i)
    case measure=>omega
    case rel=>exact⟨i,h,rfl,rfl,hmi,by omega,by omega,Nat.le_refl _,S2,HL,hst⟩
  ·obtain rfl:j=i:=by omega
   have hltz:¬(j:Int)<(j:Int):=by omega
   obtain⟨l,el⟩:∃ l,j-1=l:=⟨_,rfl⟩
   have zl:(j:Int)-1=(l:Int):=by omega
   have fin:Hid (∀ dk:Array Nat,(∀ x,dk[x]! = d[upI a l x]!)→Srt sc dk a b):=by
    show ∀ dk:Array Nat,(∀ x,dk[x]! = d[upI a l x]!)→Srt sc dk a b
    intro dk h
    have hone:=HN.out
    have ht:=HT.out
    have hl:=HL.out
    clear HN HT HL
    subst hone
    exact up_srt ht hmi hjb hl HH.out (by rw[el];exact h)
   clear HL HH el
   go_wp2
   go_loopg [13] (l-a) (fun kx s13 wr=>∃ (q:Nat) (dk:Array Nat),s13=.int .i64 q∧a≤q∧q≤l∧l-q≤kx∧dk.size=d.size∧Aside (SWK enc k w0 blk off dk wr)∧Hid (∀ x,dk[x]! = d[upI a q x]!))
   case atStart=>exact⟨a,d,rfl,Nat.le_refl _,by omega,Nat.le_refl _,rfl,S1,fun x=>by rw[upI_start]⟩
   case round =>
    clear S1
    obtain⟨q,dk,rfl,haq,hql,hkx,hsk,S1,HQ⟩:=hrel
    by_cases hlt2:q<l
    ·have hltz2:(q:Int)<(l:Int):=by omega
     have ea1:((q:Int)+1).toNat=q+1:=by omega
     have pa1:(0:Int)≤(q:Int)+1:=by omega
     have ba1:(q:Int)+1<(d.size:Int):=by omega
     have bq:(q:Int)<(d.size:Int):=by omega
     have ra1:IntKind.i64.wrap ((q:Int)+1)=(q:Int)+1:=by rw[IntKind.wrap_i64];omega
     have hst:Hid (∀ x,(swp dk q (q+1))[x]! = d[upI a (q+1) x]!):=up_step haq hsk (by omega) HQ.out
     clear HQ
     have S2:Aside (SWK enc k w0 blk off (swp dk q (q+1)) ((wr.drew.setCells blk (off+q*k) (enc dk[(q+1)]!)).setCells blk (off+(q+1)*k) (enc dk[q]!))):=S1.out.swapped R q (q+1) (by omega) (by omega)
     have la:=S1.out.ld1 R (by omega) P q (by omega)
     have lb:=S1.out.ld1 R (by omega) P (q+1) (by omega)
     have sa:=S1.out.st1 R (by omega) P q (by omega) dk[(q+1)]!
     have sb:=S1.out.st2 R (by omega) P q (q+1) (by omega) (by omega) dk[(q+1)]! dk[q]!
     have na:(enc dk[q]!).length=k:=R.hk _
     have nb:(enc dk[(q+1)]!).length=k:=R.hk _
     generalize enc dk[q]! = cI at S2 la sb na
     generalize enc dk[(q+1)]! = cJ at S2 lb sa sb nb
     clear S1
     go_wp2_with fail
     go_big_region_o
     clear la lb sa sb
     generalize (wr.drew.setCells blk (off+q*k) cJ).setCells blk (off+(q+1)*k) cI=w2 at S2 ⊢
     go_wp2
     go_roundg (l-(q+1))
     case measure=>omega
     case rel=>exact⟨q+1,_,by go_num,by omega,by omega,Nat.le_refl _,by rw[swp_size];exact hsk,S2,hst⟩
    ·obtain rfl:q=l:=by omega
     have hltz2:¬(q:Int)<(q:Int):=by omega
     go_wp2
     (try simp only[Exit.inBlock,Exit.then]);refine bodyPost_ret (results_none rfl _ _ _) rfl ?_
     exact⟨rfl,dk,up_mv haq (by omega) hsk HQ.out,fin.out dk HQ.out,S1.out⟩
end
section
open Go.Shelf Go.RowKit Go.Lib Go.Sort
variable {P:Program}{k:Nat}
set_option maxRecDepth 1000000 in
theorem symDn_call (L:SrtP P k)(enc:Nat→List Value)(cf:Nat→Nat→Int)(sc:Nat→Int)(hcf:∀ x y,cf x y<0↔sc y<sc x)(g:Nat)(cb:Array Value)(blk off cap a m b:Nat)(d0 d:Array Nat)(w0 w:World)
  (eg:∀ args w,(callFunc g args).run P w=.ok (.enter g args) w) (hcmp:CmpLays P g cb enc k cf blk off d0.size w0)
  (R:RowK enc k w0 blk off d0) (hs:d0.size=d.size) (S:SWK enc k w0 blk off d w) (ham:a<m) (hmb:m<b) (hb:b≤d.size) (hsz:d.size<1099511627776) (hT:Two sc d a m b) (hone:b=m+1) (hnot:a+1<m) :
  Calls P 189 #[.slice (some ⟨blk,off,none⟩) d.size cap,.int .i64 a,.int .i64 m,.int .i64 b,.func (.func g) #[] cb] w fun e w'=>e=.returned (.tuple #[])∧∃ dF:Array Nat,Mv a b d dF∧Srt sc dF a b∧SWK enc k w0 blk off dF w':=by
 have mixed:=L.mixed;have t0:=L.t0;have a0:=L.a0;have z0:=L.z0;have v0:=L.v0;have t3:=L.t3;have a3:=L.a3;have z3:=L.z3;have v3:=L.v3;have t4:=L.t4;have a4:=L.a4;have z4:=L.z4;have v4:=L.v4;have t51:=L.t51;have a51:=L.a51;have z51:=L.z51;have v51:=L.v51;have t57:=L.t57;have a57:=L.a57;have z57:=L.z57;have v57:=L.v57;have t74:=L.t74;have a74:=L.a74;have z74:=L.z74;have v74:=L.v74;have aE:=L.aE;have zE:=L.zE
 have FG:=L.f43
 have HC:Aside _:=hcmp
 have HF:Hid (∀ x y,cf x y<0↔sc y<sc x):=hcf
 have HT:Hid (Two sc d a m b):=hT
 have S0:Aside (SWK enc k w0 blk off d w):=S
 clear hcmp hcf hT S L
 have t1:¬(m:Int)-(a:Int)=1:=by omega
 have t2:(b:Int)-(m:Int)=1:=by omega
 obtain⟨ma,ema⟩:∃ ma,m-a=ma:=⟨_,rfl⟩
 have zma:(m:Int)-(a:Int)=(ma:Int):=by omega
 have tma:((ma:Int)==1)=false:=by simp;omega
 have bma:(ma:Int)<(d.size:Int):=by omega
 have em:((m:Nat):Int).toNat=m:=by omega
 have pm:(0:Int)≤((m:Nat):Int):=by omega
 have bm:((m:Nat):Int)<(d.size:Int):=by omega
 have rm:IntKind.i64.wrap (((m:Nat):Int))=((m:Nat):Int):=by rw[IntKind.wrap_i64];omega
 have HN:Hid (b=m+1):=hone
 clear t1 hone
 go_enter FG,Tryz.ntmps189
 go_wp2
 clear tma zma t2
 go_loopg [14,15] (m-a) (fun kx s14 s15 wr=>∃ (i j:Nat),s14=.int .i64 i∧s15=.int .i64 j∧a≤i∧i≤j∧j≤m∧j-i≤kx∧Aside (SWK enc k w0 blk off d wr)∧Hid (i=a∨¬sc d[i-1]! < sc d[m]!)∧Hid (j=m∨sc d[j]! < sc d[m]!))
 case atStart=>exact⟨a,m,rfl,rfl,Nat.le_refl _,by omega,Nat.le_refl _,Nat.le_refl _,S0,.inl rfl,.inl rfl⟩
 case round =>
  clear S0
  obtain⟨i,j,rfl,rfl,hmi,hij,hjb,hkx,S1,HL,HH⟩:=hrel
  by_cases hlt:i<j
  ·have hltz:(i:Int)<(j:Int):=by omega
   obtain⟨sm,esm⟩:∃ sm,i+j=sm:=⟨_,rfl⟩
   obtain⟨h,eh⟩:∃ h,sm/2=h:=⟨_,rfl⟩
   have zsm:(i:Int)+(j:Int)=(sm:Int):=by omega
   have zsh:(sm:Int)/2=(h:Int):=by omega
   have us:IntKind.u64.wrap (sm:Int)=(sm:Int):=by rw[IntKind.wrap_u64];omega
   have uh:IntKind.u64.wrap (h:Int)=(h:Int):=by rw[IntKind.wrap_u64];omega
   have hb0:sm<4611686018427387904:=by omega
   have eh:((h:Nat):Int).toNat=h:=by omega
   have ph:(0:Int)≤((h:Nat):Int):=by omega
   have bh:((h:Nat):Int)<(d.size:Int):=by omega
   have rh:IntKind.i64.wrap (((h:Nat):Int))=((h:Nat):Int):=by rw[IntKind.wrap_i64];omega
   obtain⟨vx,hx⟩:∃ v,v=d[m]!:=⟨_,rfl⟩
   obtain⟨vy,hy⟩:∃ v,v=d[h]!:=⟨_,rfl⟩
   have la:=S1.out.ld R (by omega) P m (by omega)
   have lb:=S1.out.ld R (by omega) P h (by omega)
   rw[←hx] at la
   rw[←hy] at lb
   have hc:=S1.out.cmp HC.out (by omega) vx vy
   by_cases hlv:cf vx vy<0
   ·have hd:decide (cf vx vy<0)=true:=decide_eq_true hlv
    have hst:Hid (h=m∨sc d[h]! < sc d[m]!):=.inr (by rw[←hx,←hy];exact (HF.out vx vy).1 hlv)
    clear hx hy
    go_wp2_with fail
    go_quiet_grown (first|(go_at_fn g;refine Calls.grown_of (hc _ _)))
    have S2:Aside (SWK enc k w0 blk off d (grow (wr.drewN nq) osq)):=S1.out.grown nq osq
    clear la lb hc S1
    generalize grow (wr.drewN nq) osq=w2 at S2 ⊢
    clear nq osq
    go_wp2
    go_roundg (h-i)
    case measure=>omega
    case rel=>exact⟨i,h,rfl,rfl,hmi,by omega,by omega,Nat.le_refl _,S2,HL,hst⟩
   ·have hd:decide (cf vx vy<0)=false:=decide_eq_false hlv
    have hst:Hid (h+1=a∨¬sc d[h+1-1]! < sc d[m]!):=.inr (by rw[Nat.add_sub_cancel,←hx,←hy];exact fun hh=>hlv ((HF.out vx vy).2 hh))
    clear hx hy
    go_wp2_with fail
    go_quiet_grown (first|(go_at_fn g;refine Calls.grown_of (hc _ _)))
    have S2:Aside (SWK enc k w0 blk off d (grow (wr.drewN nq) osq)):=S1.out.grown nq osq
    clear la lb hc S1
    generalize grow (wr.drewN nq) osq=w2 at S2 ⊢
    clear nq osq
    go_wp2
    go_roundg (j-(h+1))
    case measure=>omega
    case rel=>exact⟨h+1,j,by go_num,rfl,by omega,by omega,hjb,Nat.le_refl _,S2,hst,HH⟩
  ·obtain rfl:j=i:=by omega
   have hltz:¬(j:Int)<(j:Int):=by omega
   have fin:Hid (∀ dk:Array Nat,(∀ x,dk[x]! = d[dnI m j x]!)→Srt sc dk a b):=by
    show ∀ dk:Array Nat,(∀ x,dk[x]! = d[dnI m j x]!)→Srt sc dk a b
    intro dk h
    have hone:=HN.out
    have ht:=HT.out
    clear HN HT
    subst hone
    exact dn_srt ht hmi hjb HL.out HH.out h
   clear HL HH
   go_wp2
   go_loopg [17] (m-j) (fun kx s17 wr=>∃ (q:Nat) (dk:Array Nat),s17=.int .i64 q∧j≤q∧q≤m∧q-j≤kx∧dk.size=d.size∧Aside (SWK enc k w0 blk off dk wr)∧Hid (∀ x,dk[x]! = d[dnI m q x]!))
   case atStart=>exact⟨m,d,rfl,by omega,Nat.le_refl _,Nat.le_refl _,rfl,S1,fun x=>by rw[dnI_start]⟩
   case round =>
    clear S1
    obtain⟨q,dk,rfl,haq,hql,hkx,hsk,S1,HQ⟩:=hrel
    by_cases hlt2:j<q
    ·obtain⟨qp,rfl⟩:∃ qp,q=qp+1:=⟨q-1,by omega⟩
     have hltz2:(j:Int)<(qp:Int)+1:=by omega
     have ea1:((qp:Int)+1).toNat=qp+1:=by omega
     have pa1:(0:Int)≤(qp:Int)+1:=by omega
     have ba1:(qp:Int)+1<(d.size:Int):=by omega
     have bq:(qp:Int)<(d.size:Int):=by omega
     have rq:IntKind.i64.wrap (qp:Int)=(qp:Int):=by rw[IntKind.wrap_i64];omega
     have hst:Hid (∀ x,(swp dk (qp+1) qp)[x]! = d[dnI m qp x]!):=dn_step hql hsk (by omega) HQ.out
     clear HQ
     have S2:Aside (SWK enc k w0 blk off (swp dk (qp+1) qp) ((wr.drew.setCells blk (off+(qp+1)*k) (enc dk[qp]!)).setCells blk (off+qp*k) (enc dk[(qp+1)]!))):=S1.out.swapped R (qp+1) qp (by omega) (by omega)
     have la:=S1.out.ld1 R (by omega) P (qp+1) (by omega)
     have lb:=S1.out.ld1 R (by omega) P qp (by omega)
     have sa:=S1.out.st1 R (by omega) P (qp+1) (by omega) dk[qp]!
     have sb:=S1.out.st2 R (by omega) P (qp+1) qp (by omega) (by omega) dk[qp]! dk[(qp+1)]!
     have na:(enc dk[(qp+1)]!).length=k:=R.hk _
     have nb:(enc dk[qp]!).length=k:=R.hk _
     generalize enc dk[(qp+1)]! = cI at S2 la sb na
     generalize enc dk[qp]! = cJ at S2 lb sa sb nb
     clear S1
     go_wp2_with fail
     go_big_region_o
     clear la lb sa sb
     generalize (wr.drew.setCells blk (off+(qp+1)*k) cJ).setCells blk (off+qp*k) cI=w2 at S2 ⊢
     go_wp2
     go_roundg (qp-j)
     case measure=>omega
     case rel=>exact⟨qp,_,by first|rfl|go_num|(congr 1;omega),by omega,by omega,Nat.le_refl _,by rw[swp_size];exact hsk,S2,hst⟩
    ·obtain rfl:q=j:=by omega
     have hltz2:¬(q:Int)<(q:Int):=by omega
     have mv:Mv a b d dk:=by rw[HN.out];exact dn_mv (by omega) hql hsk HQ.out
     go_wp2
     (try simp only[Exit.inBlock,Exit.then]);refine bodyPost_ret (results_none rfl _ _ _) rfl ?_
     exact⟨rfl,dk,mv,fin.out dk HQ.out,S1.out⟩
end
section
open Go.Shelf Go.RowKit Go.Lib Go.Sort
variable {P:Program}{k:Nat}
theorem rot_go {a b n:Nat}{dk dk':Array Nat}(hab:a+n≤b)(hb:b+n≤dk.size){I J:Nat→Nat}(h:∀ x,dk[I x]! = dk'[J x]!){I':Nat→Nat}(hI:∀ x,swI a b n (I' x)=I x):∀ x,(swR dk a b n)[I' x]! = dk'[J x]!:=fun x=>by
 rw[swR_at dk a b n hab hb,hI,h]
set_option maxRecDepth 1000000 in
theorem rotate_call (L:SrtP P k)(enc:Nat→List Value)(g:Nat)(cb:Array Value)(blk off cap a m b:Nat)(d0 d:Array Nat)(w0 w:World)
  (R:RowK enc k w0 blk off d0) (hs:d0.size=d.size) (S:SWK enc k w0 blk off d w) (ham:a<m) (hmb:m<b) (hb:b≤d.size) (hsz:d.size<1099511627776) :
  Calls P 210 #[.slice (some ⟨blk,off,none⟩) d.size cap,.int .i64 a,.int .i64 m,.int .i64 b,.func (.func g) #[] cb] w fun e w'=>e=.returned (.tuple #[])∧∃ dF:Array Nat,dF.size=d.size∧Rot a m b d dF∧SWK enc k w0 blk off dF w':=by
 have mixed:=L.mixed;have t0:=L.t0;have a0:=L.a0;have z0:=L.z0;have v0:=L.v0;have t3:=L.t3;have a3:=L.a3;have z3:=L.z3;have v3:=L.v3;have t4:=L.t4;have a4:=L.a4;have z4:=L.z4;have v4:=L.v4;have t51:=L.t51;have a51:=L.a51;have z51:=L.z51;have v51:=L.v51;have t57:=L.t57;have a57:=L.a57;have z57:=L.z57;have v57:=L.v57
 have FG:=L.f44
 have e45:∀ args w,(callFunc 230 args).run P w=.ok (.enter 230 args) w:=enters_of L.f45 (by decide) rfl
 have S0:Aside (SWK enc k w0 blk off d w):=S
 have step:Aside (∀ (W:World) (dk:Array Nat) (x y n:Nat),dk.size=d.size→SWK enc k w0 blk off dk W→x+n≤y→y+n≤dk.size →
   Calls P 230 #[.slice (some ⟨blk,off,none⟩) d.size cap,.int .i64 x,.int .i64 y,.int .i64 n,.func (.func g) #[] cb] W fun e w'=>e=.returned (.tuple #[])∧SWK enc k w0 blk off (swR dk x y n) w'):=fun W dk x y n h1 h2 h3 h4=>by
  have:=swapRange_call L enc g cb blk off cap x y n d0 dk w0 W R (by omega) h2 h3 h4 (by omega)
  rw[h1] at this
  exact this
 clear S L
 obtain⟨i0,ei0⟩:∃ i0,m-a=i0:=⟨_,rfl⟩
 obtain⟨j0,ej0⟩:∃ j0,b-m=j0:=⟨_,rfl⟩
 have z1:(m:Int)-(a:Int)=(i0:Int):=by omega
 have z2:(b:Int)-(m:Int)=(j0:Int):=by omega
 go_enter FG,Tryz.ntmps210
 go_wp2
 go_loopg [10,11] (i0+j0) (fun kx s10 s11 wr=>∃ (i j:Nat) (dk:Array Nat),s10=.int .i64 i∧s11=.int .i64 j∧0<i∧0<j∧i≤i0∧j≤j0∧i+j≤kx∧dk.size=d.size∧Aside (SWK enc k w0 blk off dk wr)∧Hid (∀ x,dk[rotI (m-i) m (m+j) x]! = d[rotI a m b x]!))
 case atStart=>exact⟨i0,j0,d,rfl,rfl,by omega,by omega,Nat.le_refl _,Nat.le_refl _,by omega,rfl,S0,by show ∀ x,_;intro x;rw[show m-i0=a by omega,show m+j0=b by omega]⟩
 case round =>
  clear S0
  obtain⟨i,j,dk,rfl,rfl,hi,hj,hi0,hj0,hkx,hds,S1,HR⟩:=hrel
  obtain⟨x0,ex0⟩:∃ x0,m-i=x0:=⟨_,rfl⟩
  have zx:(m:Int)-(i:Int)=(x0:Int):=by omega
  by_cases hlt:j<i
  ·have t1:¬(i:Int)=(j:Int):=by omega
   have t2:(j:Int)<(i:Int):=by omega
   have c:=step.out wr dk x0 m j hds S1.out (by omega) (by omega)
   have HR':Hid (∀ x,(swR dk x0 m j)[rotI (m-(i-j)) m (m+j) x]! = d[rotI a m b x]!):=rot_go (by omega) (by omega) HR.out (fun x=>by rw[←ex0];exact rot_left hj hlt (by omega) x)
   have hds':(swR dk x0 m j).size=d.size:=by rw[swR_size];exact hds
   obtain⟨y,ey⟩:∃ y,i-j=y:=⟨_,rfl⟩
   have zy:(i:Int)-(j:Int)=(y:Int):=by omega
   rw[ey] at HR'
   clear S1 HR ex0
   go_wp2_with (go_at_fn 230;refine c.mono ?_;rintro e w2 ⟨rfl,S2⟩)
   go_roundg (y+j)
   case measure=>omega
   case rel=>exact⟨y,j,_,rfl,rfl,by omega,hj,by omega,hj0,Nat.le_refl _,hds',S2,HR'⟩
  ·by_cases hlt':i<j
   ·have t1:¬(i:Int)=(j:Int):=by omega
    have t2:¬(j:Int)<(i:Int):=by omega
    obtain⟨s,es⟩:∃ s,m+j=s:=⟨_,rfl⟩
    obtain⟨y0,ey0⟩:∃ y0,m+j-i=y0:=⟨_,rfl⟩
    have zs:(m:Int)+(j:Int)=(s:Int):=by omega
    have zy0:(s:Int)-(i:Int)=(y0:Int):=by omega
    have c:=step.out wr dk x0 y0 i hds S1.out (by omega) (by omega)
    have HR':Hid (∀ x,(swR dk x0 y0 i)[rotI (m-i) m (m+(j-i)) x]! = d[rotI a m b x]!):=rot_go (by omega) (by omega) HR.out (fun x=>by rw[←ex0,←ey0];exact rot_right hi hlt' (by omega) x)
    have hds':(swR dk x0 y0 i).size=d.size:=by rw[swR_size];exact hds
    obtain⟨y,ey⟩:∃ y,j-i=y:=⟨_,rfl⟩
    have zy:(j:Int)-(i:Int)=(y:Int):=by omega
    rw[ey] at HR'
    have hbs:(s:Int)≤(b:Int):=by omega
    clear S1 HR ex0 es ey0
    go_wp2_with (go_at_fn 230;refine c.mono ?_;rintro e w2 ⟨rfl,S2⟩)
    go_roundg (i+y)
    case measure=>omega
    case rel=>exact⟨i,y,_,rfl,rfl,hi,by omega,hi0,by omega,Nat.le_refl _,hds',S2,HR'⟩
   ·obtain rfl:j=i:=by omega
    have c:=step.out wr dk x0 m j hds S1.out (by omega) (by omega)
    have fin:Hid (Rot a m b d (swR dk x0 m j)):=by
     show Rot a m b d _
     intro x
     rw[swR_at _ _ _ _ (by omega) (by omega),←ex0,rot_last (by omega),HR.out]
    have hds':(swR dk x0 m j).size=d.size:=by rw[swR_size];exact hds
    clear S1 HR ex0
    go_wp2_with (go_at_fn 230;refine c.mono ?_;rintro e w2 ⟨rfl,S2⟩)
    go_end0
    exact⟨rfl,_,hds',fin.out,S2⟩
end
section
open Go.Shelf Go.RowKit Go.Lib Go.Sort
variable {P:Program}{k:Nat}
set_option maxRecDepth 1000000 in
theorem symHi_call (L:SrtP P k)(enc:Nat→List Value)(cf:Nat→Nat→Int)(sc:Nat→Int)(hcf:∀ x y,cf x y<0↔sc y<sc x)(g:Nat)(cb:Array Value)(blk off cap a m b:Nat)(d0 d:Array Nat)(w0 w:World)
  (eg:∀ args w,(callFunc g args).run P w=.ok (.enter g args) w) (hcmp:CmpLays P g cb enc k cf blk off d0.size w0)
  (R:RowK enc k w0 blk off d0) (hs:d0.size=d.size) (S:SWK enc k w0 blk off d w) (ham:a<m) (hmb:m<b) (hb:b≤d.size) (hsz:d.size<1099511627776) (hT:Two sc d a m b) (hma:a+1<m) (hbm:m+1<b)
  (ih:∀ (a' m' b':Nat) (d':Array Nat) (W:World),b'-a'<b-a→d'.size=d.size→SWK enc k w0 blk off d' W→a'<m'→m'<b'→b'≤d.size→Two sc d' a' m' b' →
   Calls P 189 #[.slice (some ⟨blk,off,none⟩) d.size cap,.int .i64 a',.int .i64 m',.int .i64 b',.func (.func g) #[] cb] W fun e w'=>e=.returned (.tuple #[])∧∃ dF:Array Nat,Mv a' b' d' dF∧Srt sc dF a' b'∧SWK enc k w0 blk off dF w')
  (hmid:(a+b)/2<m) :
  Calls P 189 #[.slice (some ⟨blk,off,none⟩) d.size cap,.int .i64 a,.int .i64 m,.int .i64 b,.func (.func g) #[] cb] w fun e w'=>e=.returned (.tuple #[])∧∃ dF:Array Nat,Mv a b d dF∧Srt sc dF a b∧SWK enc k w0 blk off dF w':=by
 have mixed:=L.mixed;have t0:=L.t0;have a0:=L.a0;have z0:=L.z0;have v0:=L.v0;have t3:=L.t3;have a3:=L.a3;have z3:=L.z3;have v3:=L.v3;have t4:=L.t4;have a4:=L.a4;have z4:=L.z4;have v4:=L.v4;have t51:=L.t51;have a51:=L.a51;have z51:=L.z51;have v51:=L.v51;have t57:=L.t57;have a57:=L.a57;have z57:=L.z57;have v57:=L.v57;have t74:=L.t74;have a74:=L.a74;have z74:=L.z74;have v74:=L.v74;have aE:=L.aE;have zE:=L.zE
 have FG:=L.f43
 have e44:∀ args w,(callFunc 210 args).run P w=.ok (.enter 210 args) w:=enters_of L.f44 (by decide) rfl
 have e43:∀ args w,(callFunc 189 args).run P w=.ok (.enter 189 args) w:=enters_of L.f43 (by decide) rfl
 have rot:Aside (∀ (W:World) (x y z:Nat),SWK enc k w0 blk off d W→x<y→y<z→z≤d.size →
   Calls P 210 #[.slice (some ⟨blk,off,none⟩) d.size cap,.int .i64 x,.int .i64 y,.int .i64 z,.func (.func g) #[] cb] W fun e w'=>e=.returned (.tuple #[])∧∃ dF:Array Nat,dF.size=d.size∧Rot x y z d dF∧SWK enc k w0 blk off dF w'):=fun W x y z h1 h2 h3 h4 =>
  rotate_call L enc g cb blk off cap x y z d0 d w0 W R hs h1 h2 h3 h4 hsz
 have HC:Aside _:=hcmp
 have HF:Hid (∀ x y,cf x y<0↔sc y<sc x):=hcf
 have HT:Hid (Two sc d a m b):=hT
 have S0:Aside (SWK enc k w0 blk off d w):=S
 have IH:Aside _:=ih
 clear hcmp hcf hT S L ih
 obtain⟨ma,ema⟩:∃ ma,m-a=ma:=⟨_,rfl⟩
 have zma:(m:Int)-(a:Int)=(ma:Int):=by omega
 have tma:((ma:Int)==1)=false:=by simp;omega
 have bma:(ma:Int)<(d.size:Int):=by omega
 obtain⟨bm,ebm⟩:∃ bm,b-m=bm:=⟨_,rfl⟩
 have zbm:(b:Int)-(m:Int)=(bm:Int):=by omega
 have tbm:((bm:Int)==1)=false:=by simp;omega
 have bbm:(bm:Int)<(d.size:Int):=by omega
 obtain⟨sab,esab⟩:∃ sab,a+b=sab:=⟨_,rfl⟩
 obtain⟨mid,emid⟩:∃ mid,sab/2=mid:=⟨_,rfl⟩
 have hmid1:mid<m:=by rw[←emid,←esab];exact hmid
 have zsab:(a:Int)+(b:Int)=(sab:Int):=by omega
 have zmid:(sab:Int)/2=(mid:Int):=by omega
 have usab:IntKind.u64.wrap (sab:Int)=(sab:Int):=by rw[IntKind.wrap_u64];omega
 have umid:IntKind.u64.wrap (mid:Int)=(mid:Int):=by rw[IntKind.wrap_u64];omega
 have bsab:sab<4611686018427387904:=by omega
 obtain⟨nn,enn⟩:∃ nn,mid+m=nn:=⟨_,rfl⟩
 have znn:(mid:Int)+(m:Int)=(nn:Int):=by omega
 have bnn:nn<4611686018427387904:=by omega
 obtain⟨p,ep⟩:∃ p,nn-1=p:=⟨_,rfl⟩
 have zp:(nn:Int)-1=(p:Int):=by omega
 have tm:(mid:Int)<(m:Int):=by omega
 obtain⟨s0,es0⟩:∃ s0,nn-b=s0:=⟨_,rfl⟩
 have zs0:(nn:Int)-(b:Int)=(s0:Int):=by omega
 have G:Hid (a+b=sab∧sab/2=mid∧mid+m=nn∧nn-1=p∧nn-b=s0∧mid<m):=by show _∧_;omega
 clear ema ebm esab emid enn ep hmid hmid1 es0
 go_enter FG,Tryz.ntmps189
 go_wp2
 clear tm tma tbm zma zbm zsab zmid usab umid
 go_loopg [20,21] (mid-s0) (fun kx s20 s21 wr=>∃ (s r:Nat),s20=.int .i64 s∧s21=.int .i64 r∧s0≤s∧s≤r∧r≤mid∧r-s≤kx∧Aside (SWK enc k w0 blk off d wr)∧Hid (s=s0∨sc d[nn-s]!≤sc d[s-1]!)∧Hid (r=mid∨sc d[r]! < sc d[nn-r-1]!))
 case atStart=>exact⟨s0,mid,rfl,rfl,Nat.le_refl _,by have:=G.out;omega,Nat.le_refl _,Nat.le_refl _,S0,.inl rfl,.inl rfl⟩
 case round =>
  clear S0
  obtain⟨s,r,rfl,rfl,hs0,hsr,hr0,hkx,S1,HL,HH⟩:=hrel
  by_cases hlt:s<r
  ·have hltz:(s:Int)<(r:Int):=by omega
   have gg:=G.out
   obtain⟨sm,esm⟩:∃ sm,s+r=sm:=⟨_,rfl⟩
   obtain⟨c,ec⟩:∃ c,sm/2=c:=⟨_,rfl⟩
   have zsm:(s:Int)+(r:Int)=(sm:Int):=by omega
   have zsc:(sm:Int)/2=(c:Int):=by omega
   have us:IntKind.u64.wrap (sm:Int)=(sm:Int):=by rw[IntKind.wrap_u64];omega
   have uh:IntKind.u64.wrap (c:Int)=(c:Int):=by rw[IntKind.wrap_u64];omega
   have hb0:sm<4611686018427387904:=by omega
   obtain⟨q,eq⟩:∃ q,p-c=q:=⟨_,rfl⟩
   have zq:(p:Int)-(c:Int)=(q:Int):=by omega
   have hqn:nn-(c+1)=q∧nn-c-1=q:=by omega
   have hqd:q<d.size:=by omega
   have ec:((c:Nat):Int).toNat=c:=by omega
   have pc:(0:Int)≤((c:Nat):Int):=by omega
   have bc:((c:Nat):Int)<(d.size:Int):=by omega
   have rc:IntKind.i64.wrap (((c:Nat):Int))=((c:Nat):Int):=by rw[IntKind.wrap_i64];omega
   have eq:((q:Nat):Int).toNat=q:=by omega
   have pq:(0:Int)≤((q:Nat):Int):=by omega
   have bq:((q:Nat):Int)<(d.size:Int):=by omega
   have rq:IntKind.i64.wrap (((q:Nat):Int))=((q:Nat):Int):=by rw[IntKind.wrap_i64];omega
   have HQ:Hid (nn-(c+1)=q∧nn-c-1=q):=hqn
   have hsc:s≤c∧c<r:=by omega
   clear hqn gg eq
   obtain⟨vx,hx⟩:∃ v,v=d[q]!:=⟨_,rfl⟩
   obtain⟨vy,hy⟩:∃ v,v=d[c]!:=⟨_,rfl⟩
   have la:=S1.out.ld R (by omega) P q (by omega)
   have lb:=S1.out.ld R (by omega) P c (by omega)
   rw[←hx] at la
   rw[←hy] at lb
   have hc:=S1.out.cmp HC.out (by omega) vx vy
   by_cases hlv:cf vx vy<0
   ·have hd:decide (cf vx vy<0)=true:=decide_eq_true hlv
    have hst:Hid (c=mid∨sc d[c]! < sc d[nn-c-1]!):=.inr (by rw[HQ.out.2,←hx,←hy];exact (HF.out vx vy).1 hlv)
    clear hx hy
    go_wp2_with fail
    go_quiet_grown (first|(go_at_fn g;refine Calls.grown_of (hc _ _)))
    have S2:Aside (SWK enc k w0 blk off d (grow (wr.drewN nq) osq)):=S1.out.grown nq osq
    clear la lb hc S1
    generalize grow (wr.drewN nq) osq=w2 at S2 ⊢
    clear nq osq
    go_wp2
    go_roundg (c-s)
    case measure=>omega
    case rel=>exact⟨s,c,rfl,rfl,hs0,by omega,by omega,Nat.le_refl _,S2,HL,hst⟩
   ·have hd:decide (cf vx vy<0)=false:=decide_eq_false hlv
    have hst:Hid (c+1=s0∨sc d[nn-(c+1)]!≤sc d[c+1-1]!):=.inr (by rw[HQ.out.1,Nat.add_sub_cancel,←hx,←hy];exact Int.not_lt.1 fun hh=>hlv ((HF.out vx vy).2 hh))
    clear hx hy
    go_wp2_with fail
    go_quiet_grown (first|(go_at_fn g;refine Calls.grown_of (hc _ _)))
    have S2:Aside (SWK enc k w0 blk off d (grow (wr.drewN nq) osq)):=S1.out.grown nq osq
    clear la lb hc S1
    generalize grow (wr.drewN nq) osq=w2 at S2 ⊢
    clear nq osq
    go_wp2
    go_roundg (r-(c+1))
    case measure=>omega
    case rel=>exact⟨c+1,r,by go_num,rfl,by omega,by omega,hr0,Nat.le_refl _,S2,hst,HH⟩
  ·obtain rfl:s=r:=by omega
   have hltz:¬(s:Int)<(s:Int):=by omega
   have gg:=G.out
   obtain⟨e,ee⟩:∃ e,nn-s=e:=⟨_,rfl⟩
   have ze:(nn:Int)-(s:Int)=(e:Int):=by omega
   have has:a≤s:=by omega
   have hsm:s≤m:=by omega
   have hsd:s≤mid:=by omega
   have heb:e≤b:=by omega
   have hme:m≤e:=by omega
   have hde:mid≤e:=by omega
   have hes:e+s=mid+m:=by omega
   have ham2:a<mid∧mid<b:=by omega
   have hmm:mid<m:=by omega
   have cutF:Aside (∀ d1:Array Nat,Rot s m e d d1→Cut sc d1 a s mid e b):=fun d1 h=>by
    have hl:=HL.out
    have hh:=HH.out
    have e1:e=mid+m-s:=by omega
    have e2:nn-s=mid+m-s:=by omega
    rw[e2] at hl hh
    subst e1
    refine cut_of HT.out has hsm hsd heb ?_ ?_ h
    ·rcases hl with hl|hl
     ·left;omega
     ·by_cases hc:mid+m-s<b
      ·exact .inr ⟨hc,hl⟩
      ·left;omega
    ·rcases hh with hh|hh
     ·left;omega
     ·exact .inr hh
   have crot:Aside (∀ W,SWK enc k w0 blk off d W→s<m→m<e→Calls P 210 #[.slice (some ⟨blk,off,none⟩) d.size cap,.int .i64 s,.int .i64 m,.int .i64 e,.func (.func g) #[] cb] W fun x w'=>x=.returned (.tuple #[])∧∃ d1:Array Nat,d1.size=d.size∧Hid (Cut sc d1 a s mid e b)∧Mv a b d d1∧Aside (SWK enc k w0 blk off d1 w')):=fun W h1 h2 h3 =>
    (rot.out W s m e h1 h2 h3 (by omega)).mono fun x w' ⟨h4,dF,h5,h6,h7⟩=>⟨h4,dF,h5,cutF.out dF h6,(h6.mv h5 (by omega) (by omega)).mono has heb,h7⟩
   have cm1:Aside (∀ W (d1:Array Nat),d1.size=d.size→Cut sc d1 a s mid e b→SWK enc k w0 blk off d1 W→a<s→s<mid→Calls P 189 #[.slice (some ⟨blk,off,none⟩) d.size cap,.int .i64 a,.int .i64 s,.int .i64 mid,.func (.func g) #[] cb] W fun x w'=>x=.returned (.tuple #[])∧∃ d2:Array Nat,Mv a mid d1 d2∧Srt sc d2 a mid∧Aside (SWK enc k w0 blk off d2 w')):=fun W d1 h1 h2 h3 h4 h5 =>
    IH.out a s mid d1 W (by omega) h1 h3 h4 h5 (by omega) h2.first
   have cm2:Aside (∀ W (d1 d2:Array Nat),d1.size=d.size→Cut sc d1 a s mid e b→Mv a mid d1 d2→SWK enc k w0 blk off d2 W→mid<e→e<b→Calls P 189 #[.slice (some ⟨blk,off,none⟩) d.size cap,.int .i64 mid,.int .i64 e,.int .i64 b,.func (.func g) #[] cb] W fun x w'=>x=.returned (.tuple #[])∧∃ d3:Array Nat,Mv mid b d2 d3∧Srt sc d3 mid b∧Aside (SWK enc k w0 blk off d3 w')):=fun W d1 d2 h1 h2 h3 h4 h5 h6 =>
    IH.out mid e b d2 W (by omega) (h3.size.trans h1) h4 h5 h6 hb (h2.second.moved h3 (by omega) (by omega) (by omega))
   clear gg ee
   rcases (show (m=e)∨(m≠e∧s≠m∧a≠s∧e≠b)∨(m≠e∧s≠m∧a=s∧e≠b)∨(m≠e∧s≠m∧a≠s∧e=b)∨(m≠e∧s≠m∧a=s∧e=b) by omega) with hw|hw|hw|hw|hw
   ·-- no rotation,the second pair
    have u1:(s:Int)<(m:Int):=by omega
    have u2:¬(m:Int)<(e:Int):=by omega
    have u3:(a:Int)<(s:Int):=by omega
    have u4:¬(s:Int)<(mid:Int):=by omega
    have u5:(mid:Int)<(e:Int):=by omega
    have u6:(e:Int)<(b:Int):=by omega
    clear hw hes
    obtain⟨d1,hs1,hC,m1,S2⟩:∃ d1:Array Nat,d1.size=d.size∧Hid (Cut sc d1 a s mid e b)∧Mv a b d d1∧Aside (SWK enc k w0 blk off d1 wr):=⟨d,rfl,cutF.out d (fun x=>by rw[rot_none (by omega) hsm (by omega)]),Mv.refl _ _ _,S1⟩
    obtain⟨d2,m2,q2,S3⟩:∃ d2:Array Nat,Mv a mid d1 d2∧Srt sc d2 a mid∧Aside (SWK enc k w0 blk off d2 _):=⟨d1,Mv.refl _ _ _,hC.out.first.none (by omega) (by omega) (by omega),S2⟩
    clear HL HH cutF
    go_wp2_with (first
     | (go_at_fn 189;refine (cm2.out _ _ _ hs1 hC.out m2 S3.out (by omega) (by omega)).mono ?_;rintro _ w4 ⟨rfl,d3,m3,q3,S4⟩))
    go_end0
    exact⟨rfl,d3,(m1.trans (m2.mono (by omega) (by omega))).trans (m3.mono (by omega) (by omega)),hC.out.join m2 q2 m3 q3,S4.out⟩
   ·-- rotation,go go
    have u1:(s:Int)<(m:Int):=by omega
    have u2:(m:Int)<(e:Int):=by omega
    have u3:(a:Int)<(s:Int):=by omega
    have u4:(s:Int)<(mid:Int):=by omega
    have u5:(mid:Int)<(e:Int):=by omega
    have u6:(e:Int)<(b:Int):=by omega
    clear hw hes
    clear HL HH cutF
    go_wp2_with (first
     | (go_at_fn 210;refine (crot.out _ S1.out (by omega) (by omega)).mono ?_;rintro _ w2 ⟨rfl,d1,hs1,hC,m1,S2⟩)
     | (go_at_fn 189;refine (cm1.out _ _ hs1 hC.out S2.out (by omega) (by omega)).mono ?_;rintro _ w3 ⟨rfl,d2,m2,q2,S3⟩;clear cm1)
     | (go_at_fn 189;refine (cm2.out _ _ _ hs1 hC.out m2 S3.out (by omega) (by omega)).mono ?_;rintro _ w4 ⟨rfl,d3,m3,q3,S4⟩))
    go_end0
    exact⟨rfl,d3,(m1.trans (m2.mono (by omega) (by omega))).trans (m3.mono (by omega) (by omega)),hC.out.join m2 q2 m3 q3,S4.out⟩
   ·-- rotation,as go
    have u1:(s:Int)<(m:Int):=by omega
    have u2:(m:Int)<(e:Int):=by omega
    have u3:¬(a:Int)<(s:Int):=by omega
    have u5:(mid:Int)<(e:Int):=by omega
    have u6:(e:Int)<(b:Int):=by omega
    clear hw hes
    clear HL HH cutF
    go_wp2_with (first
     | (go_at_fn 210;refine (crot.out _ S1.out (by omega) (by omega)).mono ?_;rintro _ w2 ⟨rfl,d1,hs1,hC,m1,S2⟩;obtain⟨d2,m2,q2,S3⟩:∃ d2:Array Nat,Mv a mid d1 d2∧Srt sc d2 a mid∧Aside (SWK enc k w0 blk off d2 _):=⟨d1,Mv.refl _ _ _,hC.out.first.none (by omega) (by omega) (by omega),S2⟩)
     | (go_at_fn 189;refine (cm2.out _ _ _ hs1 hC.out m2 S3.out (by omega) (by omega)).mono ?_;rintro _ w4 ⟨rfl,d3,m3,q3,S4⟩))
    go_end0
    exact⟨rfl,d3,(m1.trans (m2.mono (by omega) (by omega))).trans (m3.mono (by omega) (by omega)),hC.out.join m2 q2 m3 q3,S4.out⟩
   ·-- rotation,go eb
    have u1:(s:Int)<(m:Int):=by omega
    have u2:(m:Int)<(e:Int):=by omega
    have u3:(a:Int)<(s:Int):=by omega
    have u4:(s:Int)<(mid:Int):=by omega
    have u5:(mid:Int)<(e:Int):=by omega
    have u6:¬(e:Int)<(b:Int):=by omega
    clear hw hes
    clear HL HH cutF
    go_wp2_with (first
     | (go_at_fn 210;refine (crot.out _ S1.out (by omega) (by omega)).mono ?_;rintro _ w2 ⟨rfl,d1,hs1,hC,m1,S2⟩)
     | (go_at_fn 189;refine (cm1.out _ _ hs1 hC.out S2.out (by omega) (by omega)).mono ?_;rintro _ w3 ⟨rfl,d2,m2,q2,S3⟩;clear cm1;obtain⟨d3,m3,q3,S4⟩:∃ d3:Array Nat,Mv mid b d2 d3∧Srt sc d3 mid b∧Aside (SWK enc k w0 blk off d3 _):=⟨d2,Mv.refl _ _ _,(hC.out.second.moved m2 (by omega) (by omega) (by omega)).none (by omega) (by omega) (by omega),S3⟩))
    go_end0
    exact⟨rfl,d3,(m1.trans (m2.mono (by omega) (by omega))).trans (m3.mono (by omega) (by omega)),hC.out.join m2 q2 m3 q3,S4.out⟩
   ·-- rotation,as eb
    have u1:(s:Int)<(m:Int):=by omega
    have u2:(m:Int)<(e:Int):=by omega
    have u3:¬(a:Int)<(s:Int):=by omega
    have u5:(mid:Int)<(e:Int):=by omega
    have u6:¬(e:Int)<(b:Int):=by omega
    clear hw hes
    clear HL HH cutF
    go_wp2_with (first
     | (go_at_fn 210;refine (crot.out _ S1.out (by omega) (by omega)).mono ?_;rintro _ w2 ⟨rfl,d1,hs1,hC,m1,S2⟩;obtain⟨d2,m2,q2,S3⟩:∃ d2:Array Nat,Mv a mid d1 d2∧Srt sc d2 a mid∧Aside (SWK enc k w0 blk off d2 _):=⟨d1,Mv.refl _ _ _,hC.out.first.none (by omega) (by omega) (by omega),S2⟩;obtain⟨d3,m3,q3,S4⟩:∃ d3:Array Nat,Mv mid b d2 d3∧Srt sc d3 mid b∧Aside (SWK enc k w0 blk off d3 _):=⟨d2,Mv.refl _ _ _,(hC.out.second.moved m2 (by omega) (by omega) (by omega)).none (by omega) (by omega) (by omega),S3⟩))
    go_end0
    exact⟨rfl,d3,(m1.trans (m2.mono (by omega) (by omega))).trans (m3.mono (by omega) (by omega)),hC.out.join m2 q2 m3 q3,S4.out⟩
end
theorem pen_bounds {P N:Int}(h1:0≤P)(h2:P≤64)(h3:0≤N)(h4:N≤1000):0≤4096*P*N∧4096*P*N≤262144000:=by
 have a1:0≤4096*P:=by omega
 have a2:4096*P≤262144:=by omega
 exact⟨Int.mul_nonneg a1 h3,by have:=Int.mul_le_mul a2 h4 h3 (by omega);omega⟩
theorem bewf_small {x:Int}(h1:-1099511627776≤x)(h2:x≤1099511627776):(Lit.int .i64 x).wf=true:=by
 simp only[Lit.wf,IntKind.min,IntKind.max,IntKind.signed,IntKind.bits]
 simp
 omega
theorem final_call (a:Option Addr)(n c:Nat)(s p:Int)(f:Bool)(hw:(Lit.int .i64 s).wf=true)(hn:n≤9223372036854775807)(w:World) :
  Calls Tryz.prog 119 #[.agg #[.slice a n c,.int .i64 s,.bool f],.int .i64 p] w fun e w'=>e=.returned (.int .i64 (divZ s (65536+4096*(min 64 (max 0 p))*(min 1000 (n:Int)))))∧Below w.heap.size w w':=by
 obtain⟨P,eP⟩:∃ P,min (max p 0) 64=P:=⟨_,rfl⟩
 obtain⟨N,eN⟩:∃ N,min (n:Int) 1000=N:=⟨_,rfl⟩
 have hP:0≤P∧P≤64:=by omega
 have hN:0≤N∧N≤1000:=by omega
 have hQ:=pen_bounds hP.1 hP.2 hN.1 hN.2
 rw[show min 64 (max 0 p)=P by omega,show min 1000 (n:Int)=N by omega]
 obtain⟨Q1,e1⟩:∃ Q1,4096*P=Q1:=⟨_,rfl⟩
 rw[e1] at hQ ⊢
 obtain⟨Q2,e2⟩:∃ Q2,Q1*N=Q2:=⟨_,rfl⟩
 rw[e2] at hQ ⊢
 have hQ1:0≤Q1∧Q1≤262144:=by omega
 obtain⟨q1,q2⟩:=hQ
 obtain⟨q3,q4⟩:=hQ1
 have kd:=fun W=>div_call s (65536+Q2) hw (bewf_small (by omega) (by omega)) W
 clear hP hN
 go_enter Tryz.func119,Tryz.ntmps119
 go_wp2_with (go_at_call 154;refine (kd _).mono ?_;rintro e w' ⟨rfl,h⟩;obtain rfl:=h.symm)
 go_ret
 exact⟨rfl,bNw (Below.refl _ _) _⟩
end Go.Proofs.YtbkjhfmehemgpaaGreat

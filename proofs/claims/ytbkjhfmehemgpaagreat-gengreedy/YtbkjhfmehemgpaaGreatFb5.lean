/- Texts put together. -/
import Derived.Test.YtbkjhfmehemgpaaGreatRows
import Derived.Laws.FloatArith
import Derived.Laws.Externs
import Derived.OpenShut
import Derived.ProofKit
import Derived.WalkKit
import Derived.WalkLawsBesides
import Derived.Laws.BitsAllLaws
import Derived.Sort.LotA
namespace Go.Proofs.YtbkjhfmehemgpaaGreat
set_option maxRecDepth 20000
set_option maxHeartbeats 16000000
open Go.ChangeShapes Go.WideShapes Go.ChangeAt Go.RowKit
set_option linter.unusedVariables false
set_option linter.unusedSimpArgs false
section
open Ieee (Format Datum Toward)
def rv (r:Nat):Nat:=if r<2 ^ 52 then r else (2 ^ 52+r%2 ^ 52)*2 ^ (r/2 ^ 52-1)
def sg (x:Nat):Bool:=x/2 ^ 63%2==1
def K (x:Nat):Int:=if sg x then -(rv (x%2 ^ 63):Int) else rv (x%2 ^ 63)
def Fin64 (x:Nat):Prop:=x%2 ^ 63<2047*2 ^ 52
def isN (x:Nat):Bool:=decide (2047*2 ^ 52<x%2 ^ 63)
theorem d_sw:Ieee.double.signWeight=2 ^ 63:=rfl
theorem d_bin:Ieee.double.binade=2 ^ 52:=rfl
theorem d_inf:Ieee.double.infRung=2047*2 ^ 52:=rfl
theorem d_lp:Ieee.double.leastPlace = -1074:=rfl
theorem d_fb:Ieee.double.fractionBits=52:=rfl
theorem read_fin {x:Nat}(h:Fin64 x):∃ m a,Ieee.double.read x=.number (sg x) m ((a:Nat)-1074:Int)∧m<2 ^ 53∧a≤2045∧rv (x%2 ^ 63)=m*2 ^ a:=by
 unfold Fin64 at h
 by_cases h1:x%2 ^ 63<2 ^ 52
 ·refine⟨x%2 ^ 63,0,?_,by omega,by omega,?_⟩
  ·unfold Format.read
   simp only[d_sw,d_bin,d_lp,h1,if_true]
   rfl
  ·unfold rv;rw[if_pos h1];omega
 ·refine⟨2 ^ 52+x%2 ^ 63%2 ^ 52,x%2 ^ 63/2 ^ 52-1,?_,by omega,by omega,?_⟩
  ·unfold Format.read
   simp only[d_sw,d_bin,d_lp,d_inf,h1,if_false,h,if_true]
   rw[show (-1074+((x%2 ^ 63/2 ^ 52-1:Nat):Int))=((x%2 ^ 63/2 ^ 52-1:Nat):Int)-1074 by omega]
   rfl
  ·unfold rv;rw[if_neg h1]
theorem read_inf {x:Nat}(h:x%2 ^ 63=2047*2 ^ 52):Ieee.double.read x=.infinity (sg x):=by
 unfold Format.read
 simp only[d_sw,d_bin,d_inf,h]
 rw[if_neg (by omega),if_neg (by omega),if_pos trivial]
 rfl
theorem read_nan {x:Nat}(h:isN x=true):∃ s t,Ieee.double.read x=.nan s t:=by
 unfold isN at h
 simp only[decide_eq_true_eq] at h
 refine⟨sg x,x%2 ^ 63-2047*2 ^ 52,?_⟩
 unfold Format.read
 have h1:¬x%2 ^ 63<2 ^ 52:=by omega
 have h2:¬x%2 ^ 63<2047*2 ^ 52:=by omega
 have h3:¬x%2 ^ 63=2047*2 ^ 52:=by omega
 simp only[d_sw,d_bin,d_inf,h1,h2,h3,if_false]
 rfl
theorem signed_val (s:Bool)(m a:Nat):Ieee.signed s m a=if s then -((m*2 ^ a:Nat):Int) else ((m*2 ^ a:Nat):Int):=by
 unfold Ieee.signed;rw[Nat.shiftLeft_eq]
theorem K_fin {x m a:Nat}(e:rv (x%2 ^ 63)=m*2 ^ a):K x=Ieee.signed (sg x) m a:=by
 rw[signed_val];unfold K;rw[e]
theorem signed_shift (s:Bool)(m a c:Nat):Ieee.signed s m (a+c)=Ieee.signed s m a*((2 ^ c:Nat):Int):=by
 rw[signed_val,signed_val,Nat.pow_add,←Nat.mul_assoc]
 cases s
 ·simp only[Bool.false_eq_true,if_false];rw[←Int.natCast_mul]
 ·simp only[if_true];rw[Int.neg_mul,←Int.natCast_mul]
theorem compare_scale (x y:Int)(c:Nat):compare (x*((2 ^ c:Nat):Int)) (y*((2 ^ c:Nat):Int))=compare x y:=by
 have hp:(0:Int)<((2 ^ c:Nat):Int):=by exact_mod_cast Nat.two_pow_pos c
 rcases Int.lt_trichotomy x y with h|h|h
 ·rw[Int.compare_eq_lt.2 h,Int.compare_eq_lt.2 (Int.mul_lt_mul_of_pos_right h hp)]
 ·rw[h,Int.compare_eq_eq.2 rfl,Int.compare_eq_eq.2 rfl]
 ·rw[Int.compare_eq_gt.2 h,Int.compare_eq_gt.2 (Int.mul_lt_mul_of_pos_right h hp)]
def BIG:Nat:=2 ^ 2098
theorem BIG_pos:0<BIG:=by decide +kernel
theorem BIG_ge:2 ^ 52≤BIG:=by decide +kernel
theorem BIG_eq:2 ^ 53*2 ^ 2045=BIG:=by decide +kernel
theorem scaled_lt {m a c k:Nat}(hm:m<2 ^ k)(ha:a≤c):m*2 ^ a<2 ^ k*2 ^ c :=
 Nat.lt_of_le_of_lt (Nat.mul_le_mul_left _ (Nat.pow_le_pow_right (by decide) ha)) (Nat.mul_lt_mul_of_pos_right hm (Nat.two_pow_pos _))
theorem BIG_lt {m a:Nat}(hm:m<2 ^ 53)(ha:a≤2045):m*2 ^ a<BIG:=by
 obtain⟨c,ec⟩:∃ c,c=2045:=⟨_,rfl⟩
 have e:2 ^ 53*2 ^ c=BIG:=by rw[ec];exact BIG_eq
 rw[←ec] at ha
 rw[←e]
 exact scaled_lt hm ha
theorem rv_lt {r:Nat}(h:r<2047*2 ^ 52):rv r<BIG:=by
 unfold rv
 split
 ·exact Nat.lt_of_lt_of_le ‹_› BIG_ge
 ·have h1:r/2 ^ 52-1≤2045:=by omega
  exact BIG_lt (by omega) h1
theorem rv_inf:rv (2047*2 ^ 52)=BIG:=by decide +kernel
theorem not_isN {x:Nat}(h:isN x=false):Fin64 x∨x%2 ^ 63=2047*2 ^ 52:=by
 unfold isN at h;unfold Fin64
 simp only[decide_eq_false_iff_not] at h
 omega
theorem K_lt {x:Nat}(h:Fin64 x):-(BIG:Int)<K x∧K x<(BIG:Int):=by
 have b:=rv_lt h
 have p:=BIG_pos
 unfold K
 split<;>omega
theorem order_K {x y:Nat}(hx:isN x=false)(hy:isN y=false):Ieee.double.order x y=some (compare (K x) (K y)):=by
 unfold Format.order
 rcases not_isN hx with fx|ix
 ·obtain⟨m,a,e1,_,_,e2⟩:=read_fin fx
  rcases not_isN hy with fy|iy
  ·obtain⟨n,b,e3,_,_,e4⟩:=read_fin fy
   rw[e1,e3]
   unfold Datum.order
   dsimp only
   refine congrArg some ?_
   rw[K_fin e2,K_fin e4]
   by_cases hab:a≤b
   ·have hm:min ((a:Int)-1074) ((b:Int)-1074)=(a:Int)-1074:=by omega
    rw[hm,show ((a:Int)-1074-((a:Int)-1074)).toNat=0 by omega,show ((b:Int)-1074-((a:Int)-1074)).toNat=b-a by omega]
    rw[←compare_scale _ _ a,←signed_shift,←signed_shift,Nat.zero_add,Nat.sub_add_cancel hab]
   ·have hm:min ((a:Int)-1074) ((b:Int)-1074)=(b:Int)-1074:=by omega
    rw[hm,show ((b:Int)-1074-((b:Int)-1074)).toNat=0 by omega,show ((a:Int)-1074-((b:Int)-1074)).toNat=a-b by omega]
    rw[←compare_scale _ _ b,←signed_shift,←signed_shift,Nat.zero_add,Nat.sub_add_cancel (by omega)]
  ·rw[e1,read_inf iy]
   unfold Datum.order
   dsimp only
   refine congrArg some ?_
   have b:=K_lt fx
   have ek:K y=if sg y then -(BIG:Int) else (BIG:Int):=by unfold K;rw[iy,rv_inf]
   rw[ek]
   cases hs:sg y
   ·simp only[Bool.false_eq_true,if_false];exact (Int.compare_eq_lt.2 b.2).symm
   ·simp only[if_true];exact (Int.compare_eq_gt.2 b.1).symm
 ·have ekx:K x=if sg x then -(BIG:Int) else (BIG:Int):=by unfold K;rw[ix,rv_inf]
  rcases not_isN hy with fy|iy
  ·obtain⟨n,b,e3,_,_,e4⟩:=read_fin fy
   rw[e3,read_inf ix]
   unfold Datum.order
   dsimp only
   refine congrArg some ?_
   have b:=K_lt fy
   rw[ekx]
   cases hs:sg x
   ·simp only[Bool.false_eq_true,if_false];exact (Int.compare_eq_gt.2 b.2).symm
   ·simp only[if_true];exact (Int.compare_eq_lt.2 b.1).symm
  ·rw[read_inf ix,read_inf iy]
   unfold Datum.order
   dsimp only
   refine congrArg some ?_
   have ek:K y=if sg y then -(BIG:Int) else (BIG:Int):=by unfold K;rw[iy,rv_inf]
   have p:=BIG_pos
   rw[ekx,ek]
   cases sg x<;>cases sg y<;>simp only[Bool.false_eq_true,if_false,if_true,Bool.toNat_false,Bool.toNat_true]
   ·rw[Int.compare_eq_eq.2 rfl];rfl
   ·rw[Int.compare_eq_gt.2 (by omega)];rfl
   ·rw[Int.compare_eq_lt.2 (by omega)];rfl
   ·rw[Int.compare_eq_eq.2 rfl];rfl
theorem order_nan_left {x:Nat}(hx:isN x=true)(y:Nat):Ieee.double.order x y=none:=by
 obtain⟨s,t,e⟩:=read_nan hx
 unfold Format.order
 rw[e]
 unfold Datum.order
 cases Ieee.double.read y<;>rfl
end
section
open Ieee (Format Datum Toward)
theorem log2_mul_pow {n:Nat}(h:n≠0)(k:Nat):(n*2 ^ k).log2=n.log2+k:=by
 have hp:=Nat.two_pow_pos k
 have hn:n*2 ^ k≠0:=Nat.mul_ne_zero h (by omega)
 apply Nat.le_antisymm
 ·have:(n*2 ^ k).log2<n.log2+1+k:=by
   rw[Nat.log2_lt hn,Nat.pow_add]
   exact Nat.mul_lt_mul_of_pos_right Nat.lt_log2_self hp
  omega
 ·rw[Nat.le_log2 hn,Nat.pow_add]
  exact Nat.mul_le_mul_right _ (Nat.log2_self_le h)
def rne (n d:Nat):Nat:=n/d+(decide (d<2*(n%d)) || (d==2*(n%d) && n/d%2==1)).toNat
theorem cut_even (s:Bool)(n k:Nat):Toward.cut .even s n k=rne n (2 ^ k):=by
 unfold Toward.cut rne
 dsimp only
 rw[Nat.shiftLeft_eq,Nat.one_mul]
 by_cases h:k≤n.log2+2
 ·rw[Nat.min_eq_left h]
 ·rw[Nat.min_eq_right (by omega)]
  have h1:2*n<2 ^ (n.log2+2):=by
   have:=@Nat.lt_log2_self n
   rw[Nat.pow_succ] at this ⊢
   rw[Nat.pow_succ]
   omega
  have h2:2 ^ (n.log2+2)≤2 ^ k:=Nat.pow_le_pow_right (by decide) (by omega)
  generalize 2 ^ (n.log2+2)=A at *
  generalize 2 ^ k=B at *
  rw[Nat.mod_eq_of_lt (show n<A by omega),Nat.mod_eq_of_lt (show n<B by omega),Nat.div_eq_of_lt (show n<A by omega),Nat.div_eq_of_lt (show n<B by omega)]
  have a1:decide (A<2*n)=false:=by simp only[decide_eq_false_iff_not];omega
  have a2:decide (B<2*n)=false:=by simp only[decide_eq_false_iff_not];omega
  have a3:(A==2*n)=false:=by rw[beq_eq_false_iff_ne];omega
  have a4:(B==2*n)=false:=by rw[beq_eq_false_iff_ne];omega
  rw[a1,a2,a3,a4]
theorem cut_zero (s:Bool)(n k:Nat):Toward.cut .zero s n k=n/2 ^ k:=by
 unfold Toward.cut
 dsimp only
 rw[Nat.shiftLeft_eq,Nat.one_mul]
 by_cases h:k≤n.log2+2
 ·rw[Nat.min_eq_left h];rfl
 ·rw[Nat.min_eq_right (by omega)]
  have h1:n<2 ^ (n.log2+2):=by
   have:=@Nat.lt_log2_self n
   rw[Nat.pow_succ] at this ⊢
   rw[Nat.pow_succ]
   omega
  have h2:2 ^ (n.log2+2)≤2 ^ k:=Nat.pow_le_pow_right (by decide) (by omega)
  rw[Nat.div_eq_of_lt h1,Nat.div_eq_of_lt (Nat.lt_of_lt_of_le h1 h2)];rfl
theorem rne_mul (g d:Nat)(h:0<d):rne (g*d) d=g:=by
 unfold rne
 rw[Nat.mul_div_cancel _ h,Nat.mul_mod_left]
 have a1:decide (d<2*0)=false:=by simp
 have a2:(d==2*0)=false:=by rw[beq_eq_false_iff_ne];omega
 rw[a1,a2];rfl
theorem rne_scale (n d c:Nat)(hc:0<c):rne (n*c) (d*c)=rne n d:=by
 unfold rne
 rw[Nat.mul_div_mul_right _ _ hc,Nat.mul_mod_mul_right]
 have e1:decide (d*c<2*(n%d*c))=decide (d<2*(n%d)):=by
  rw[←Nat.mul_assoc]
  exact decide_eq_decide.2 (Nat.mul_lt_mul_right hc)
 have e2:(d*c==2*(n%d*c))=(d==2*(n%d)):=by
  rw[←Nat.mul_assoc,Bool.eq_iff_iff,beq_iff_eq,beq_iff_eq]
  exact Nat.mul_right_cancel_iff hc
 rw[e1,e2]
theorem word_rung (s:Bool){r:Nat}(h:r<2 ^ 63):Ieee.double.word s r%2 ^ 63=r∧sg (Ieee.double.word s r)=s:=by
 unfold Format.word sg
 rw[d_sw]
 cases s
 ·simp only[Bool.false_eq_true,if_false]
  refine⟨by omega,?_⟩
  rw[beq_eq_false_iff_ne];omega
 ·simp only[if_true]
  refine⟨by omega,?_⟩
  rw[beq_iff_eq];omega
theorem rv_rung (L k:Nat)(h:k<2 ^ 53)(h2:L=0∨2 ^ 52≤k):rv (L*2 ^ 52+k)=k*2 ^ L:=by
 unfold rv
 by_cases c:k<2 ^ 52
 ·have:L=0:=by omega
  subst this
  rw[if_pos (by omega)];omega
 ·rw[if_neg (by omega)]
  have e1:(L*2 ^ 52+k)/2 ^ 52-1=L:=by omega
  have e2:(L*2 ^ 52+k)%2 ^ 52=k-2 ^ 52:=by omega
  rw[e1,e2,show 2 ^ 52+(k-2 ^ 52)=k by omega]
theorem BIG_log {W:Nat}(h0:W≠0)(h:W<BIG):W.log2<2098:=by
 obtain⟨c,ec⟩:∃ c,c=2098:=⟨_,rfl⟩
 have e:2 ^ c=BIG:=by rw[ec];decide +kernel
 rw[←ec,Nat.log2_lt h0,e];exact h
theorem kept (W g q:Nat)(h0:W≠0)(e:W=g*2 ^ q)(hg:g<2 ^ 53) :
  ∃ k,W=k*2 ^ (W.log2-52)∧k<2 ^ 53∧(W.log2-52=0∨2 ^ 52≤k):=by
 have g0:g≠0:=by intro h;subst h;omega
 have hl:W.log2=g.log2+q:=by rw[e,log2_mul_pow g0]
 have hg':g.log2<53:=(Nat.log2_lt g0).2 hg
 have hL:W.log2-52≤q:=by omega
 refine⟨g*2 ^ (q-(W.log2-52)),?_,?_,?_⟩
 ·rw[Nat.mul_assoc,←Nat.pow_add,Nat.sub_add_cancel hL];exact e
 ·have h1:g*2 ^ (q-(W.log2-52))≠0:=Nat.mul_ne_zero g0 (by have:=Nat.two_pow_pos (q-(W.log2-52));omega)
  rw[←Nat.log2_lt h1,log2_mul_pow g0]
  omega
 ·by_cases c:W.log2-52=0
  ·exact .inl c
  ·have h1:g*2 ^ (q-(W.log2-52))≠0:=Nat.mul_ne_zero g0 (by have:=Nat.two_pow_pos (q-(W.log2-52));omega)
   right
   rw[←Nat.le_log2 h1,log2_mul_pow g0]
   omega
theorem near_exact (s:Bool)(mag a b g q:Nat)(place:Int)(hp:place=(a:Int)-b-1074)(e:mag*2 ^ a=g*2 ^ q*2 ^ b)(hg:g<2 ^ 53)(hW:g*2 ^ q<BIG) :
  Fin64 (Ieee.double.nearest s mag place)∧K (Ieee.double.nearest s mag place)=if s then -((g*2 ^ q:Nat):Int) else ((g*2 ^ q:Nat):Int):=by
 obtain⟨W,eW⟩:∃ W,W=g*2 ^ q:=⟨_,rfl⟩
 rw[←eW] at e hW ⊢
 have pa:=Nat.two_pow_pos a
 have pb:=Nat.two_pow_pos b
 by_cases m0:mag=0
 ·have w0:W=0:=by
   rw[m0,Nat.zero_mul] at e
   rcases Nat.mul_eq_zero.1 e.symm with h|h<;>omega
  unfold Format.nearest
  rw[if_pos m0]
  have h:=word_rung s (r:=0) (by omega)
  refine⟨by unfold Fin64;rw[h.1];omega,?_⟩
  unfold K
  rw[h.1,h.2,w0]
  rfl
 ·have w0:W≠0:=by
   intro h
   rw[h,Nat.zero_mul] at e
   rcases Nat.mul_eq_zero.1 e with h|h<;>omega
  have hl:mag.log2+a=W.log2+b:=by
   rw[←log2_mul_pow m0,←log2_mul_pow w0,e]
  obtain⟨k,ek,hk,hk2⟩:=kept W g q w0 eW hg
  have hb:=BIG_log w0 hW
  obtain⟨L,eL⟩:∃ L,L=W.log2-52:=⟨_,rfl⟩
  rw[←eL] at ek hk2
  have hlast:max (place+(mag.log2:Int)-((52:Nat):Int)) (-1074)=(L:Int)-1074:=by omega
  have hcut:Toward.even.cut s (mag <<< (place-((L:Int)-1074)).toNat) (((L:Int)-1074)-place).toNat=k:=by
   rw[cut_even,Nat.shiftLeft_eq]
   by_cases c:b+L≤a
   ·rw[show (((L:Int)-1074)-place).toNat=0 by omega,show (place-((L:Int)-1074)).toNat=a-(b+L) by omega]
    have e2:mag*2 ^ (a-(b+L))=k:=by
     have:mag*2 ^ (a-(b+L))*2 ^ (b+L)=k*2 ^ (b+L):=by
      rw[Nat.mul_assoc,←Nat.pow_add,Nat.sub_add_cancel c,e,ek,Nat.mul_assoc,←Nat.pow_add,Nat.add_comm b L]
     exact Nat.mul_right_cancel (Nat.two_pow_pos _) this
    rw[e2]
    have:=rne_mul k 1 (by decide)
    rw[Nat.mul_one] at this
    exact this
   ·rw[show (place-((L:Int)-1074)).toNat=0 by omega,show (((L:Int)-1074)-place).toNat=b+L-a by omega]
    have e2:mag=k*2 ^ (b+L-a):=by
     have:mag*2 ^ a=k*2 ^ (b+L-a)*2 ^ a:=by
      rw[Nat.mul_assoc,←Nat.pow_add,Nat.sub_add_cancel (by omega),e,ek,Nat.mul_assoc,←Nat.pow_add,Nat.add_comm b L]
     exact Nat.mul_right_cancel pa this
    rw[Nat.pow_zero,Nat.mul_one,e2]
    exact rne_mul k _ (Nat.two_pow_pos _)
  have hR:L*2 ^ 52+k<2047*2 ^ 52:=by omega
  have en:Ieee.double.nearest s mag place=Ieee.double.word s (L*2 ^ 52+k):=by
   unfold Format.nearest
   rw[if_neg m0]
   dsimp only
   rw[d_fb,d_lp,hlast,hcut,d_bin,d_inf,show ((L:Int)-1074 - -1074).toNat=L by omega,Nat.min_eq_left (by omega)]
  have h:=word_rung s (r:=L*2 ^ 52+k) (by omega)
  rw[en]
  refine⟨by unfold Fin64;rw[h.1];omega,?_⟩
  unfold K
  rw[h.1,h.2,rv_rung L k hk (by omega),ek]
end
section
open Ieee (Format Datum Toward)
def UN:Nat:=2 ^ 1074
theorem UN_pos:0<UN:=by decide +kernel
theorem UN_pow:∃ c:Nat,c=1074∧UN=2 ^ c:=⟨1074,rfl,by decide +kernel⟩
theorem sign_mul (s:Bool)(g W:Nat):(if s then -((g*W:Nat):Int) else ((g*W:Nat):Int))=(if s then -(g:Int) else (g:Int))*(W:Int):=by
 cases s
 ·simp only[Bool.false_eq_true,if_false];rw[Int.natCast_mul]
 ·simp only[if_true];rw[Int.natCast_mul,Int.neg_mul]
theorem whole_exact (s:Bool)(m:Nat)(h:m<2 ^ 53):Fin64 (Ieee.double.nearest s m 0)∧K (Ieee.double.nearest s m 0)=(if s then -(m:Int) else (m:Int))*(UN:Int):=by
 obtain⟨c,ec,eU⟩:=UN_pow
 have r:=near_exact s m c 0 m c 0 (by omega) (by rw[Nat.pow_zero,Nat.mul_one]) h (BIG_lt h (by omega))
 rw[←eU,sign_mul] at r
 exact r
theorem K_abs {x m a:Nat}(e:rv (x%2 ^ 63)=m*2 ^ a):K x=if sg x then -((m*2 ^ a:Nat):Int) else ((m*2 ^ a:Nat):Int):=by
 unfold K;rw[e]
theorem K_natAbs (x:Nat):(K x).natAbs=rv (x%2 ^ 63):=by
 unfold K;split<;>omega
theorem read65536:Ieee.double.read 4679240012837945344=.number false (2 ^ 52) (-36):=by decide +kernel
theorem mul_exact {x:Nat}(fx:Fin64 x)(hb:(K x).natAbs≤32768*UN) :
  ∃ r,FloatKind.f64.format.mul x 4679240012837945344=some r∧Fin64 r∧K r=65536*K x:=by
 obtain⟨m,a,e1,h1,h2,e2⟩:=read_fin fx
 have hr:FloatKind.f64.format.mul x 4679240012837945344=some (Ieee.double.nearest (sg x ^^ false) (m*2 ^ 52) ((a:Int)-1074 + -36)):=by
  show Format.mul Ieee.double x 4679240012837945344=_
  unfold Format.mul
  rw[e1,read65536]
  rfl
 refine⟨_,hr,?_⟩
 rw[Bool.xor_false]
 have hlt:m*2 ^ (a+16)<BIG:=by
  rw[Nat.pow_add,←Nat.mul_assoc,←e2,←K_natAbs]
  exact Nat.lt_of_le_of_lt (Nat.mul_le_mul_right _ hb) (by decide +kernel)
 have r:=near_exact (sg x) (m*2 ^ 52) a 36 m (a+16) ((a:Int)-1074 + -36) (by omega) (by
  rw[Nat.mul_assoc,Nat.mul_assoc,←Nat.pow_add,←Nat.pow_add]
  refine congrArg (fun z=>m*2 ^ z) ?_
  omega) h1 hlt
 refine⟨r.1,?_⟩
 rw[r.2,K_abs e2,Nat.pow_add,←Nat.mul_assoc]
 split<;>omega
theorem toInt_K {x:Nat}(fx:Fin64 x):(FloatKind.f64.decode x).toInt .zero=some ((K x).tdiv (UN:Int)):=by
 obtain⟨m,a,e1,h1,h2,e2⟩:=read_fin fx
 have ed:FloatKind.f64.decode x=.number (sg x) m ((a:Int)-1074):=e1
 rw[ed]
 unfold Datum.toInt Datum.integral
 dsimp only
 refine congrArg some ?_
 rw[cut_zero,signed_val,Nat.pow_zero,Nat.mul_one,K_abs e2]
 have hq:m <<< ((a:Int)-1074).toNat/2 ^ (-((a:Int)-1074)).toNat=m*2 ^ a/UN:=by
  obtain⟨c,ec,eU⟩:=UN_pow
  rw[eU,Nat.shiftLeft_eq]
  by_cases h:a≤c
  ·rw[show ((a:Int)-1074).toNat=0 by omega,show (-((a:Int)-1074)).toNat=c-a by omega,Nat.pow_zero,Nat.mul_one]
   have:2 ^ c=2 ^ (c-a)*2 ^ a:=by rw[←Nat.pow_add,Nat.sub_add_cancel h]
   rw[this,Nat.mul_div_mul_right _ _ (Nat.two_pow_pos a)]
  ·rw[show ((a:Int)-1074).toNat=a-c by omega,show (-((a:Int)-1074)).toNat=0 by omega,Nat.pow_zero,Nat.div_one]
   have:2 ^ a=2 ^ (a-c)*2 ^ c:=by rw[←Nat.pow_add,Nat.sub_add_cancel (by omega)]
   rw[this,←Nat.mul_assoc,Nat.mul_div_cancel _ (Nat.two_pow_pos c)]
 rw[hq]
 cases sg x
 ·simp only[Bool.false_eq_true,if_false]
  rw[Int.tdiv_eq_ediv_of_nonneg (by omega)];rfl
 ·simp only[if_true]
  rw[Int.neg_tdiv,Int.tdiv_eq_ediv_of_nonneg (by omega)];rfl
theorem toIntVal {x:Nat}(fx:Fin64 x){n:Int}(e:(K x).tdiv (UN:Int)=n)(h0:-9223372036854775808≤n)(h1:n≤9223372036854775807):floatToIntVal .f64 x .i64=some n:=by
 unfold floatToIntVal
 rw[toInt_K fx,e]
 dsimp only
 rw[if_pos ⟨h0,h1⟩]
def drrnd (Y:Int):Int:=if Y<0 then -(rne Y.natAbs UN:Int) else (rne Y.natAbs UN:Int)
theorem rne_le (n d:Nat):rne n d≤n/d+1:=by
 unfold rne
 have h:∀ b:Bool,b.toNat≤1:=by intro b;cases b<;>decide
 exact Nat.add_le_add_left (h _) _
theorem rne_zero (d:Nat)(h:0<d):rne 0 d=0:=by
 have:=rne_mul 0 d h
 rw[Nat.zero_mul] at this
 exact this
theorem round_exact {x:Nat}(fx:Fin64 x)(hb:(K x).natAbs<2 ^ 52*UN) :
  Fin64 (FloatKind.f64.encode ((FloatKind.f64.decode x).integral .even))∧K (FloatKind.f64.encode ((FloatKind.f64.decode x).integral .even))=drrnd (K x)*(UN:Int):=by
 obtain⟨m,a,e1,h1,h2,e2⟩:=read_fin fx
 have ed:FloatKind.f64.decode x=.number (sg x) m ((a:Int)-1074):=e1
 have hq:rne (m <<< ((a:Int)-1074).toNat) (2 ^ (-((a:Int)-1074)).toNat)=rne (m*2 ^ a) UN:=by
  obtain⟨c,ec,eU⟩:=UN_pow
  rw[eU,Nat.shiftLeft_eq]
  by_cases h:a≤c
  ·rw[show ((a:Int)-1074).toNat=0 by omega,show (-((a:Int)-1074)).toNat=c-a by omega,Nat.pow_zero,Nat.mul_one]
   have:2 ^ c=2 ^ (c-a)*2 ^ a:=by rw[←Nat.pow_add,Nat.sub_add_cancel h]
   rw[this,rne_scale _ _ _ (Nat.two_pow_pos a)]
  ·rw[show ((a:Int)-1074).toNat=a-c by omega,show (-((a:Int)-1074)).toNat=0 by omega,Nat.pow_zero]
   have e:2 ^ a=2 ^ (a-c)*2 ^ c:=by rw[←Nat.pow_add,Nat.sub_add_cancel (by omega)]
   have t:=rne_mul (m*2 ^ (a-c)) 1 (by decide)
   rw[Nat.mul_one] at t
   rw[e,←Nat.mul_assoc,rne_mul _ _ (Nat.two_pow_pos c),t]
 have en:FloatKind.f64.encode ((FloatKind.f64.decode x).integral .even)=Ieee.double.nearest (sg x) (rne (m*2 ^ a) UN) 0:=by
  rw[ed]
  unfold Datum.integral
  dsimp only
  rw[cut_even,hq]
  rfl
 rw[en]
 have hk:=K_natAbs x
 rw[e2] at hk
 have hlt:rne (m*2 ^ a) UN<2 ^ 53:=by
  rw[hk] at hb
  have:=rne_le (m*2 ^ a) UN
  have:m*2 ^ a/UN<2 ^ 52:=(Nat.div_lt_iff_lt_mul UN_pos).2 hb
  omega
 have r:=whole_exact (sg x) _ hlt
 refine⟨r.1,?_⟩
 rw[r.2]
 refine congrArg (· * (UN:Int)) ?_
 unfold drrnd
 rw[hk]
 have ek:=K_abs e2
 by_cases z:m*2 ^ a=0
 ·rw[z,rne_zero _ UN_pos]
  split<;>split<;>rfl
 ·cases hs:sg x
  ·rw[hs] at ek
   simp only[Bool.false_eq_true,if_false] at ek ⊢
   rw[if_neg (by omega)]
  ·rw[hs] at ek
   simp only[if_true] at ek ⊢
   rw[if_pos (by omega)]
end
section
open Ieee (Format Datum Toward)
theorem rne_cases (n d:Nat)(hd:0<d):∃ q t,n=q*d+t∧t<d∧n/d=q ∧
  ((rne n d=q∧(2*t<d∨(2*t=d∧q%2=0)))∨(rne n d=q+1∧(d<2*t∨(2*t=d∧q%2=1)))):=by
 refine⟨n/d,n%d,?_,Nat.mod_lt _ hd,rfl,?_⟩
 ·rw[Nat.mul_comm];exact (Nat.div_add_mod n d).symm
 ·unfold rne
  by_cases h1:d<2*(n%d)
  ·right
   rw[decide_eq_true h1]
   exact⟨rfl,.inl h1⟩
  ·rw[decide_eq_false h1]
   by_cases h2:d=2*(n%d)
   ·rw[show (d==2*(n%d))=true by rw[beq_iff_eq];exact h2]
    by_cases h3:n/d%2=1
    ·right
     rw[h3]
     exact⟨rfl,.inr ⟨h2.symm,rfl⟩⟩
    ·left
     rw[show (n/d%2==1)=false by rw[beq_eq_false_iff_ne];exact h3]
     exact⟨rfl,.inr ⟨h2.symm,by omega⟩⟩
   ·left
    rw[show (d==2*(n%d))=false by rw[beq_eq_false_iff_ne];exact h2]
    exact⟨rfl,.inl (by omega)⟩
theorem rne_mono {n k:Nat}(d:Nat)(hd:0<d)(h:n≤k):rne n d≤rne k d:=by
 obtain⟨q,t,e1,h1,e2,r1⟩:=rne_cases n d hd
 obtain⟨p,u,e3,h2,e4,r2⟩:=rne_cases k d hd
 have hq:q≤p:=by rw[←e2,←e4];exact Nat.div_le_div_right h
 by_cases c:q=p
 ·subst c
  have:t≤u:=by omega
  omega
 ·omega
theorem rnd_whole (c:Int):drrnd (c*(UN:Int))=c:=by
 have hp:=UN_pos
 unfold drrnd
 rw[Int.natAbs_mul,Int.natAbs_natCast,rne_mul _ _ hp]
 by_cases h:c<0
 ·rw[if_pos (Int.mul_neg_of_neg_of_pos h (by omega))];omega
 ·rw[if_neg (by have:=Int.mul_nonneg (show 0≤c by omega) (show (0:Int)≤(UN:Int) by omega);omega)];omega
theorem rnd_mono {Y Z:Int}(h:Y≤Z):drrnd Y≤drrnd Z:=by
 have hp:=UN_pos
 unfold drrnd
 by_cases hy:Y<0
 ·rw[if_pos hy]
  by_cases hz:Z<0
  ·rw[if_pos hz]
   have:=rne_mono UN hp (show Z.natAbs≤Y.natAbs by omega)
   omega
  ·rw[if_neg hz];omega
 ·rw[if_neg hy,if_neg (by omega)]
  have:=rne_mono UN hp (show Y.natAbs≤Z.natAbs by omega)
  omega
theorem rnd_bound {Y:Int}(h:Y.natAbs≤2147483648*UN):-2147483648≤drrnd Y∧drrnd Y≤2147483648:=by
 have h1:=rnd_mono (show Y≤2147483648*(UN:Int) by omega)
 have h2:=rnd_mono (show -2147483648*(UN:Int)≤Y by omega)
 rw[rnd_whole] at h1 h2
 exact⟨h2,h1⟩
end
theorem ret_bool {a b:Bool}(h:a=b):Ending.returned (.bool a)=.returned (.bool b):=by rw[h]
theorem f64_order (a b:Nat):FloatKind.f64.format.order a b=Ieee.double.order a b:=rfl
theorem cmp_lt {a b:Nat}(ha:isN a=false)(hb:isN b=false):(FloatKind.f64.format.order a b==some .lt)=decide (K a<K b):=by
 rw[f64_order,order_K ha hb]
 rcases Int.lt_trichotomy (K a) (K b) with h|h|h
 ·rw[Int.compare_eq_lt.2 h,decide_eq_true h];rfl
 ·rw[Int.compare_eq_eq.2 h,decide_eq_false (by omega)];rfl
 ·rw[Int.compare_eq_gt.2 h,decide_eq_false (by omega)];rfl
theorem cmp_eq {a b:Nat}(ha:isN a=false)(hb:isN b=false):(FloatKind.f64.format.order a b==some .eq)=decide (K a=K b):=by
 rw[f64_order,order_K ha hb]
 rcases Int.lt_trichotomy (K a) (K b) with h|h|h
 ·rw[Int.compare_eq_lt.2 h,decide_eq_false (by omega)];rfl
 ·rw[Int.compare_eq_eq.2 h,decide_eq_true h];rfl
 ·rw[Int.compare_eq_gt.2 h,decide_eq_false (by omega)];rfl
theorem cmp_gt {a b:Nat}(ha:isN a=false)(hb:isN b=false):(FloatKind.f64.format.order a b==some .gt)=decide (K b<K a):=by
 rw[f64_order,order_K ha hb]
 rcases Int.lt_trichotomy (K a) (K b) with h|h|h
 ·rw[Int.compare_eq_lt.2 h,decide_eq_false (by omega)];rfl
 ·rw[Int.compare_eq_eq.2 h,decide_eq_false (by omega)];rfl
 ·rw[Int.compare_eq_gt.2 h,decide_eq_true h];rfl
theorem cmp_le {a b:Nat}(ha:isN a=false)(hb:isN b=false):(FloatKind.f64.format.order a b==some .lt || FloatKind.f64.format.order a b==some .eq)=decide (K a≤K b):=by
 rw[cmp_lt ha hb,cmp_eq ha hb,←Bool.decide_or]
 exact decide_eq_decide.2 (by omega)
theorem cmp_ge {a b:Nat}(ha:isN a=false)(hb:isN b=false):(FloatKind.f64.format.order a b==some .gt || FloatKind.f64.format.order a b==some .eq)=decide (K b≤K a):=by
 rw[cmp_gt ha hb,cmp_eq ha hb,←Bool.decide_or]
 exact decide_eq_decide.2 (by omega)
theorem cmp_self (x:Nat):(FloatKind.f64.format.order x x==some .eq) = !isN x:=by
 cases h:isN x
 ·rw[cmp_eq h h,decide_eq_true rfl];rfl
 ·rw[f64_order,order_nan_left h];rfl
theorem cmp_self_ne (x:Nat):(FloatKind.f64.format.order x x != some .eq)=isN x:=by
 unfold bne
 rw[cmp_self,Bool.not_not]
def evenB (x:Nat):Nat:=FloatKind.f64.encode ((FloatKind.f64.decode x).integral .even)
theorem even_run {x:Nat}(hx:Fin64 x)(w:World):(callFunc 162 #[.float .f64 x]).run Tryz.prog w=.ok (.value (.float .f64 (evenB x))) w:=by
 rw [run_callFunc_extern Tryz.func162 (by kernel_rfl) (by kernel_rfl) (by kernel_rfl) (e := Extern.MathFloor.toIntegral "math.RoundToEven" .even) (by kernel_rfl)]
 obtain⟨m,a,e1,_,_,_⟩:=read_fin hx
 have ed:FloatKind.f64.decode x=.number (sg x) m ((a:Int)-1074):=e1
 have er : Extern.MathFloor.toIntegral "math.RoundToEven" .even #[.float .f64 x] = pure (.float .f64 (evenB x)) := by
  unfold evenB
  show (match FloatKind.f64.decode x with|.nan s t=>_|d=>_)=_
  rw[ed]
 rw[er]
 rfl
theorem isNaN_call (x:Nat)(w:World) :
  Calls Tryz.prog 161 #[.float .f64 x] w fun e w'=>e=.returned (.bool (isN x))∧w'=w:=by
 have hs:=cmp_self_ne x
 go_enter Tryz.func161,Tryz.ntmps161
 go_wp2
 all_goals (go_ret;refine⟨ret_bool ?_,rfl⟩)
 all_goals first|rfl|exact hs
def fixE (x:Nat):Int:=if isN x then 28 else 0
def fixN (x:Nat):Int:=if isN x then 0 else if 32768*(UN:Int)≤K x then 2147483647 else if K x≤-(32768*(UN:Int)) then -2147483648 else min (drrnd (65536*K x)) 2147483647
theorem isN_top:isN 4674736413210574848=false:=by decide +kernel
theorem isN_bot:isN 13898108450065350656=false:=by decide +kernel
theorem K_top:K 4674736413210574848=32768*(UN:Int):=by decide +kernel
theorem K_bot:K 13898108450065350656 = -(32768*(UN:Int)):=by decide +kernel
theorem ret_pair {a b c d:Int}(h:a=b)(k:c=d):Ending.returned (.tuple #[.int .i64 a,.int .i64 c])=.returned (.tuple #[.int .i64 b,.int .i64 d]):=by rw[h,k]
theorem fin_of_K {x:Nat}(nx:isN x=false)(h:(K x).natAbs≤32768*UN):Fin64 x:=by
 rcases not_isN nx with f|i
 ·exact f
 ·have e:=K_natAbs x
  rw[i,rv_inf] at e
  have:32768*UN<BIG:=by decide +kernel
  omega
theorem fix_call (x:Nat)(w:World) :
  Calls Tryz.prog 123 #[.float .f64 x] w fun e w'=>e=.returned (.tuple #[.int .i64 (fixN x),.int .i64 (fixE x)])∧w'=w:=by
 cases nx:isN x
 ·have eE:fixE x=0:=by unfold fixE;rw[nx];rfl
  have h1:=cmp_ge nx isN_top
  have h2:=cmp_le nx isN_bot
  rw[K_top] at h1
  rw[K_bot] at h2
  rw[eE]
  by_cases k1:32768*(UN:Int)≤K x
  ·rw[decide_eq_true k1] at h1
   have eN:fixN x=2147483647:=by unfold fixN;rw[nx,if_neg (by decide),if_pos k1]
   rw[eN]
   clear k1
   go_enter Tryz.func123,Tryz.ntmps123
   go_wp2_with (go_at_call 161;refine (isNaN_call _ _).mono ?_;rintro e w' ⟨rfl,rfl⟩)
   all_goals (go_ret2;exact⟨rfl,rfl⟩)
  ·rw[decide_eq_false k1] at h1
   by_cases k2:K x≤-(32768*(UN:Int))
   ·rw[decide_eq_true k2] at h2
    have eN:fixN x = -2147483648:=by unfold fixN;rw[nx,if_neg (by decide),if_neg k1,if_pos k2]
    rw[eN]
    clear k1 k2
    go_enter Tryz.func123,Tryz.ntmps123
    go_wp2_with (go_at_call 161;refine (isNaN_call _ _).mono ?_;rintro e w' ⟨rfl,rfl⟩)
    all_goals (go_ret2;exact⟨rfl,rfl⟩)
   ·rw[decide_eq_false k2] at h2
    have eN:fixN x=min (drrnd (65536*K x)) 2147483647:=by unfold fixN;rw[nx,if_neg (by decide),if_neg k1,if_neg k2]
    rw[eN]
    have hb:(K x).natAbs≤32768*UN:=by omega
    have fx:=fin_of_K nx hb
    obtain⟨r,er,fr,kr⟩:=mul_exact fx hb
    have hb2:(K r).natAbs≤2147483648*UN:=by omega
    have ev:=round_exact fr (by have:=UN_pos;omega)
    have hev:=even_run fr
    have rb:=rnd_bound hb2
    obtain⟨v,eV⟩:∃ v,v=evenB r:=⟨_,rfl⟩
    rw[←eV] at hev
    have ev':Fin64 v∧K v=drrnd (K r)*(UN:Int):=by rw[eV];exact ev
    obtain⟨n,en⟩:∃ n,n=drrnd (K r):=⟨_,rfl⟩
    rw[←en] at ev' rb
    have hcv:=toIntVal ev'.1 (n:=n) (by rw[ev'.2];exact Int.mul_tdiv_cancel _ (by have:=UN_pos;omega)) (by omega) (by omega)
    rw[←kr,←en]
    have hm:∀ t w,(binOp .mul t (.float .f64 x) (.float .f64 4679240012837945344)).run Tryz.prog w=.ok (.float .f64 r) w:=fun t w=>run_float_arith w .mul t .f64 x _ r er
    have hc:∀ w,(convert 26 2 (.float .f64 v)).run Tryz.prog w=.ok (.int .i64 n) w:=fun w=>run_convert_float_int w 26 2 .f64 .i64 v n (by kernel_rfl) (by kernel_rfl) hcv
    clear k1 k2 hb hb2 ev ev' hcv er fr kr en eV eE eN fx
    go_enter Tryz.func123,Tryz.ntmps123
    go_wp2_with (go_at_call 161;refine (isNaN_call _ _).mono ?_;rintro e w' ⟨rfl,rfl⟩)
    all_goals (go_ret2;refine⟨ret_pair ?_ rfl,rfl⟩)
    all_goals omega
 ·have eE:fixE x=28:=by unfold fixE;rw[nx];rfl
  have eN:fixN x=0:=by unfold fixN;rw[nx];rfl
  rw[eE,eN]
  go_enter Tryz.func123,Tryz.ntmps123
  go_wp2_with (go_at_call 161;refine (isNaN_call _ _).mono ?_;rintro e w' ⟨rfl,rfl⟩)
  all_goals (go_ret2;exact⟨rfl,rfl⟩)
theorem knobSigns.fixN_of {x:Nat}(h:isN x=false):fixN x=if 32768*(UN:Int)≤K x then 2147483647 else if K x≤-(32768*(UN:Int)) then -2147483648 else min (drrnd (65536*K x)) 2147483647:=by
 unfold fixN
 rw[h]
 rfl
theorem knobSigns.fixN_bounds (x:Nat):-2147483648≤fixN x∧fixN x≤2147483647:=by
 cases h:isN x
 ·rw[knobSigns.fixN_of h]
  by_cases c1:32768*(UN:Int)≤K x
  ·rw[if_pos c1];omega
  ·rw[if_neg c1]
   by_cases c2:K x≤-(32768*(UN:Int))
   ·rw[if_pos c2];omega
   ·rw[if_neg c2]
    have:=rnd_bound (Y:=65536*K x) (by omega)
    omega
 ·have:fixN x=0:=by unfold fixN;rw[h];rfl
  omega
section
open Go.Sort
def Bf (sc:Nat→Int)(x y:Nat):Prop:=sc y<sc x∨(sc x=sc y∧x<y)
theorem Bf.trans {sc:Nat→Int}{x y z:Nat}(h:Bf sc x y)(h':Bf sc y z):Bf sc x z:=by unfold Bf at *;omega
def Srt (sc:Nat→Int)(d:Array Nat)(a b:Nat):Prop:=∀ i j,a≤i→i<j→j<b→Bf sc d[i]! d[j]!
def EqO (sc:Nat→Int)(d:Array Nat)(a b:Nat):Prop:=∀ i j,a≤i→i<j→j<b→sc d[i]! = sc d[j]!→d[i]! < d[j]!
structure Mv (a b:Nat) (d d':Array Nat):Prop where
 size:d'.size=d.size
 out:∀ x,x<a∨b≤x→d'[x]! = d[x]!
 from_:∀ x,a≤x→x<b→∃ y,a≤y∧y<b∧d'[x]! = d[y]!
theorem Mv.refl (a b:Nat)(d:Array Nat):Mv a b d d:=⟨rfl,fun _ _=>rfl,fun x h h'=>⟨x,h,h',rfl⟩⟩
theorem Mv.trans {a b:Nat}{d d' d'':Array Nat}(h:Mv a b d d')(h':Mv a b d' d''):Mv a b d d'' :=
 ⟨h'.size.trans h.size,fun x hx=>(h'.out x hx).trans (h.out x hx),fun x h1 h2=>by
  obtain⟨y,y1,y2,e⟩:=h'.from_ x h1 h2
  obtain⟨z,z1,z2,e'⟩:=h.from_ y y1 y2
  exact⟨z,z1,z2,e.trans e'⟩⟩
theorem Mv.mono {a b a' b':Nat}{d d':Array Nat}(h:Mv a b d d')(ha:a'≤a)(hb:b≤b'):Mv a' b' d d' :=
 ⟨h.size,fun x hx=>h.out x (by omega),fun x h1 h2=>by
  by_cases hx:a≤x∧x<b
  ·obtain⟨y,y1,y2,e⟩:=h.from_ x hx.1 hx.2
   exact⟨y,by omega,by omega,e⟩
  ·exact⟨x,h1,h2,h.out x (by omega)⟩⟩
theorem Mv.of {a b:Nat}{d d':Array Nat}(hs:d'.size=d.size)(σ:Nat→Nat)(h:∀ x,d'[x]! = d[σ x]!)(ho:∀ x,x<a∨b≤x→σ x=x)(hi:∀ x,a≤x→x<b→a≤σ x∧σ x<b):Mv a b d d' :=
 ⟨hs,fun x hx=>by rw[h,ho x hx],fun x h1 h2=>⟨σ x,(hi x h1 h2).1,(hi x h1 h2).2,h x⟩⟩
theorem Srt.out {sc:Nat→Int}{a b p q:Nat}{d d':Array Nat}(h:Srt sc d p q)(m:Mv a b d d')(ho:q≤a∨b≤p):Srt sc d' p q:=fun i j h1 h2 h3=>by
 rw[m.out i (by omega),m.out j (by omega)]
 exact h i j h1 h2 h3
theorem Srt.eqO {sc:Nat→Int}{a b:Nat}{d:Array Nat}(h:Srt sc d a b):EqO sc d a b:=fun i j h1 h2 h3 e=>by
 have:=h i j h1 h2 h3
 unfold Bf at this
 omega
theorem EqO.cut {sc:Nat→Int}{a b p q:Nat}{d:Array Nat}(h:EqO sc d a b)(hp:a≤p)(hq:q≤b):EqO sc d p q:=fun i j h1 h2 h3=>h i j (by omega) h2 (by omega)
theorem EqO.moved {sc:Nat→Int}{a b n:Nat}{d d':Array Nat}(h:EqO sc d 0 n)(m:Mv a b d d')(s:Srt sc d' a b)(hb:b≤n):EqO sc d' 0 n:=fun i j h1 h2 h3 e=>by
 by_cases hi:a≤i∧i<b
 ·by_cases hj:a≤j∧j<b
  ·exact s.eqO i j hi.1 h2 hj.2 e
  ·obtain⟨y,y1,y2,ey⟩:=m.from_ i hi.1 hi.2
   rw[ey,m.out j (by omega)] at e ⊢
   exact h y j (by omega) (by omega) h3 e
 ·by_cases hj:a≤j∧j<b
  ·obtain⟨y,y1,y2,ey⟩:=m.from_ j hj.1 hj.2
   rw[ey,m.out i (by omega)] at e ⊢
   exact h i y (by omega) (by omega) (by omega) e
  ·rw[m.out i (by omega),m.out j (by omega)] at e ⊢
   exact h i j h1 h2 h3 e
theorem Mv.swp (d:Array Nat){i j a b:Nat}(hi:i<d.size)(hj:j<d.size)(h1:a≤i∧i<b)(h2:a≤j∧j<b):Mv a b d (swp d i j):=by
 refine Mv.of (swp_size d i j) (fun x=>if x=j then i else if x=i then j else x) (fun x=>?_) (fun x hx=>?_) (fun x h3 h4=>?_)
 ·rw[swp_get d hi hj x]
  split
  ·rfl
  ·split<;>rfl
 ·rw[if_neg (by omega),if_neg (by omega)]
 ·show a≤(if x=j then i else if x=i then j else x)∧(if x=j then i else if x=i then j else x)<b
  split
  ·exact h1
  ·split
   ·exact h2
   ·exact⟨h3,h4⟩
structure Ins (sc:Nat→Int) (a j i:Nat) (d:Array Nat):Prop where
 others:∀ p q,a≤p→p<q→q≤i→p≠j→q≠j→Bf sc d[p]! d[q]!
 behind:∀ q,j<q→q≤i→Bf sc d[j]! d[q]!
 same:∀ p,a≤p→p<j→sc d[p]! = sc d[j]!→d[p]! < d[j]!
theorem Ins.start {sc:Nat→Int}{a i:Nat}{d:Array Nat}(h:Srt sc d a i)(e:EqO sc d a (i+1)):Ins sc a i i d :=
 ⟨fun p q h1 h2 h3 h4 h5=>h p q h1 h2 (by omega),fun q h1 h2=>by omega,fun p h1 h2=>e p i h1 h2 (by omega)⟩
theorem Ins.step {sc:Nat→Int}{a j i:Nat}{d:Array Nat}(h:Ins sc a (j+1) i d)(hl:sc d[j]! < sc d[j+1]!)(haj:a≤j)(hji:j+1≤i)(hsz:j+1<d.size):Ins sc a j i (swp d (j+1) j):=by
 have g:=fun x=>swp_get d hsz (show j<d.size by omega) x
 have ej:(swp d (j+1) j)[j]! = d[j+1]!:=by rw[g,if_pos rfl]
 have ej1:(swp d (j+1) j)[j+1]! = d[j]!:=by rw[g,if_neg (by omega),if_pos rfl]
 have eo:∀ x,x≠j→x≠j+1→(swp d (j+1) j)[x]! = d[x]!:=fun x h1 h2=>by rw[g,if_neg h1,if_neg h2]
 refine⟨fun p q h1 h2 h3 h4 h5=>?_,fun q h1 h2=>?_,fun p h1 h2=>?_⟩
 ·by_cases hp:p=j+1
  ·subst hp
   rw[ej1,eo q (by omega) (by omega)]
   exact h.others j q haj (by omega) h3 (by omega) (by omega)
  ·by_cases hq:q=j+1
   ·subst hq
    rw[ej1,eo p h4 hp]
    exact h.others p j h1 (by omega) (by omega) hp (by omega)
   ·rw[eo p h4 hp,eo q h5 hq]
    exact h.others p q h1 h2 h3 hp hq
 ·rw[ej]
  by_cases hq:q=j+1
  ·subst hq
   rw[ej1]
   exact .inl hl
  ·rw[eo q (by omega) hq]
   exact h.behind q (by omega) h2
 ·rw[ej,eo p (by omega) (by omega)]
  exact h.same p h1 (by omega)
theorem Ins.stop {sc:Nat→Int}{a j i:Nat}{d:Array Nat}(h:Ins sc a j i d)(hs:j≤a∨∃ p,j=p+1∧a≤p∧¬sc d[p]! < sc d[j]!)(hji:j≤i):Srt sc d a (i+1):=by
 have front:∀ p,a≤p→p<j→Bf sc d[p]! d[j]!:=fun p h1 h2=>by
  rcases hs with hs|⟨q,rfl,h3,h4⟩
  ·omega
  ·have s1:=h.same q h3 (by omega)
   have b1:Bf sc d[q]! d[q+1]!:=by unfold Bf;omega
   by_cases hp:p=q
   ·subst hp;exact b1
   ·exact (h.others p q h1 (by omega) (by omega) (by omega) (by omega)).trans b1
 intro p q h1 h2 h3
 by_cases hp:p=j
 ·subst hp
  exact h.behind q h2 (by omega)
 ·by_cases hq:q=j
  ·subst hq
   exact front p h1 h2
  ·exact h.others p q h1 h2 (by omega) hp hq
def swI (a b n x:Nat):Nat:=if a≤x∧x<a+n then x-a+b else if b≤x∧x<b+n then x-b+a else x
def rotI (a m b x:Nat):Nat:=if a≤x∧x<a+(b-m) then x+(m-a) else if a+(b-m)≤x∧x<b then x-(b-m) else x
def swR (d:Array Nat)(a b:Nat):Nat→Array Nat
 | 0=>d
 | n+1=>swp (swR d a b n) (a+n) (b+n)
theorem swR_size (d:Array Nat)(a b n:Nat):(swR d a b n).size=d.size:=by
 induction n with
 | zero=>rfl
 | succ n ih=>rw[swR,swp_size,ih]
theorem swR_at (d:Array Nat)(a b n:Nat)(hab:a+n≤b)(hb:b+n≤d.size)(x:Nat):(swR d a b n)[x]! = d[swI a b n x]!:=by
 induction n generalizing x with
 | zero =>
  have:swI a b 0 x=x:=by unfold swI;rw[if_neg (by omega),if_neg (by omega)]
  rw[this];rfl
 | succ n ih =>
  rw[swR,swp_get _ (by rw[swR_size];omega) (by rw[swR_size];omega)]
  split
  ·rename_i e
   rw[ih (by omega) (by omega)]
   congr 1
   unfold swI
   rw[if_neg (by omega),if_neg (by omega),if_neg (by omega),if_pos (by omega)]
   omega
  ·split
   ·rename_i e
    rw[ih (by omega) (by omega)]
    congr 1
    unfold swI
    rw[if_neg (by omega),if_neg (by omega),if_pos (by omega)]
    omega
   ·rw[ih (by omega) (by omega)]
    congr 1
    unfold swI
    by_cases c1:a≤x∧x<a+n
    ·rw[if_pos c1,if_pos (by omega)]
    ·have n1:¬(a≤x∧x<a+(n+1)):=by omega
     rw[if_neg c1,if_neg n1]
     by_cases c2:b≤x∧x<b+n
     ·have n2:b≤x∧x<b+(n+1):=by omega
      rw[if_pos c2,if_pos n2]
     ·have n2:¬(b≤x∧x<b+(n+1)):=by omega
      rw[if_neg c2,if_neg n2]
def Rot (a m b:Nat)(d dF:Array Nat):Prop:=∀ x,dF[x]! = d[rotI a m b x]!
theorem rot_left {m i j:Nat}(hj:0<j)(hij:j<i)(hi:i≤m)(x:Nat):swI (m-i) m j (rotI (m-(i-j)) m (m+j) x)=rotI (m-i) m (m+j) x:=by
 unfold rotI
 by_cases c1:m-(i-j)≤x∧x<m-(i-j)+(m+j-m)
 ·rw[if_pos c1]
  unfold swI
  rw[if_neg (by omega)]
  by_cases c2:m≤x+(m-(m-(i-j)))∧x+(m-(m-(i-j)))<m+j
  ·rw[if_pos c2,if_neg (by omega),if_pos (by omega)];omega
  ·omega
 ·rw[if_neg c1]
  by_cases c2:m-(i-j)+(m+j-m)≤x∧x<m+j
  ·rw[if_pos c2]
   unfold swI
   rw[if_neg (by omega),if_neg (by omega),if_neg (by omega),if_pos (by omega)]
  ·rw[if_neg c2]
   unfold swI
   by_cases c3:m-i≤x∧x<m-i+j
   ·rw[if_pos c3,if_pos (by omega)];omega
   ·rw[if_neg c3,if_neg (by omega),if_neg (by omega),if_neg (by omega)]
theorem rot_right {m i j:Nat}(hj:0<i)(hij:i<j)(hi:i≤m)(x:Nat):swI (m-i) (m+j-i) i (rotI (m-i) m (m+(j-i)) x)=rotI (m-i) m (m+j) x:=by
 unfold rotI
 by_cases c1:m-i≤x∧x<m-i+(m+(j-i)-m)
 ·rw[if_pos c1]
  unfold swI
  rw[if_neg (by omega),if_neg (by omega),if_pos (by omega)]
 ·rw[if_neg c1]
  by_cases c2:m-i+(m+(j-i)-m)≤x∧x<m+(j-i)
  ·rw[if_pos c2]
   unfold swI
   rw[if_pos (by omega),if_pos (by omega)];omega
  ·rw[if_neg c2]
   unfold swI
   rw[if_neg (by omega)]
   by_cases c3:m+j-i≤x∧x<m+j-i+i
   ·rw[if_pos c3,if_neg (by omega),if_pos (by omega)];omega
   ·rw[if_neg c3,if_neg (by omega),if_neg (by omega)]
theorem rot_last {m i:Nat}(hi:i≤m)(x:Nat):swI (m-i) m i x=rotI (m-i) m (m+i) x:=by
 have e:m-i+(m+i-m)=m:=by omega
 have e2:m-i+i=m:=by omega
 unfold rotI swI
 rw[e,e2]
 by_cases c1:m-i≤x∧x<m
 ·rw[if_pos c1,if_pos c1];omega
 ·rw[if_neg c1,if_neg c1]
  by_cases c2:m≤x∧x<m+i
  ·rw[if_pos c2,if_pos c2];omega
  ·rw[if_neg c2,if_neg c2]
theorem rot_none {a m b:Nat}(h:m≤a∨b≤m)(ham:a≤m)(hmb:m≤b)(x:Nat):rotI a m b x=x:=by
 unfold rotI
 split
 ·omega
 ·split
  ·omega
  ·rfl
theorem Rot.mv {a m b:Nat}{d dF:Array Nat}(h:Rot a m b d dF)(hs:dF.size=d.size)(ham:a≤m)(hmb:m≤b):Mv a b d dF:=by
 refine Mv.of hs (rotI a m b) h (fun x hx=>?_) (fun x h1 h2=>?_)
 ·unfold rotI
  rw[if_neg (by omega),if_neg (by omega)]
 ·unfold rotI
  by_cases c1:a≤x∧x<a+(b-m)
  ·rw[if_pos c1];omega
  ·rw[if_neg c1,if_pos (by omega)];omega
end
section
open Go.Sort
structure Two (sc:Nat→Int) (d:Array Nat) (a m b:Nat):Prop where
 left:Srt sc d a m
 right:Srt sc d m b
 same:∀ i j,a≤i→i<m→m≤j→j<b→sc d[i]! = sc d[j]!→d[i]! < d[j]!
theorem Two.of {sc:Nat→Int}{d:Array Nat}{a m b n:Nat}(h:EqO sc d 0 n)(h1:Srt sc d a m)(h2:Srt sc d m b)(hb:b≤n):Two sc d a m b :=
 ⟨h1,h2,fun i j _ h4 h5 h6 e=>h i j (by omega) (by omega) (by omega) e⟩
theorem Two.none {sc:Nat→Int}{d:Array Nat}{a m b:Nat}(h:Two sc d a m b)(he:m≤a∨b≤m)(ham:a≤m)(hmb:m≤b):Srt sc d a b:=by
 rcases he with e|e
 ·obtain rfl:m=a:=by omega
  exact h.right
 ·obtain rfl:m=b:=by omega
  exact h.left
def upI (a k x:Nat):Nat:=if a≤x∧x<k then x+1 else if x=k then a else x
theorem upI_start (a x:Nat):upI a a x=x:=by
 unfold upI
 split
 ·omega
 ·split<;>omega
theorem up_step {d dk:Array Nat}{a k:Nat}(hak:a≤k)(hs:dk.size=d.size)(hk:k+1<d.size)(h:∀ x,dk[x]! = d[upI a k x]!)(x:Nat):(swp dk k (k+1))[x]! = d[upI a (k+1) x]!:=by
 rw[swp_get dk (by omega) (by omega) x]
 by_cases c1:x=k+1
 ·rw[if_pos c1,h]
  congr 1
  unfold upI
  rw[if_neg (by omega),if_pos rfl,if_neg (by omega),if_pos c1]
 ·rw[if_neg c1]
  by_cases c2:x=k
  ·rw[if_pos c2,h]
   congr 1
   subst c2
   unfold upI
   rw[if_neg (by omega),if_neg (by omega),if_pos (by omega)]
  ·rw[if_neg c2,h]
   congr 1
   unfold upI
   by_cases c3:a≤x∧x<k
   ·rw[if_pos c3,if_pos (by omega)]
   ·have c4:¬(a≤x∧x<k+1):=by omega
    rw[if_neg c3,if_neg c4,if_neg c2,if_neg c1]
theorem up_mv {d dk:Array Nat}{a k b:Nat}(hak:a≤k)(hkb:k<b)(hs:dk.size=d.size)(h:∀ x,dk[x]! = d[upI a k x]!):Mv a b d dk:=by
 refine Mv.of hs (upI a k) h (fun x hx=>?_) (fun x h1 h2=>?_)
 ·unfold upI
  rw[if_neg (by omega),if_neg (by omega)]
 ·unfold upI
  split
  ·omega
  ·split<;>omega
theorem Srt.sc_le {sc:Nat→Int}{d:Array Nat}{a b i j:Nat}(h:Srt sc d a b)(h1:a≤i)(h2:i≤j)(h3:j<b):sc d[j]!≤sc d[i]!:=by
 by_cases e:i=j
 ·subst e;exact Int.le_refl _
 ·have:=h i j h1 (by omega) h3
  unfold Bf at this
  omega
theorem up_srt {sc:Nat→Int}{d dk:Array Nat}{a b i:Nat}(t:Two sc d a (a+1) b)(hi:a+1≤i)(hib:i≤b)
  (lo:i=a+1∨sc d[a]! < sc d[i-1]!) (hi2:i=b∨¬sc d[a]! < sc d[i]!) (h:∀ x,dk[x]! = d[upI a (i-1) x]!):Srt sc dk a b:=by
 have ahead_:∀ q,a+1≤q→q<i→Bf sc d[q]! d[a]!:=fun q h1 h2=>by
  left
  rcases lo with lo|lo
  ·omega
  ·have:=t.right.sc_le h1 (show q≤i-1 by omega) (by omega)
   omega
 have behind_:∀ q,i≤q→q<b→Bf sc d[a]! d[q]!:=fun q h1 h2=>by
  rcases hi2 with e|e
  ·omega
  ·have:=t.right.sc_le hi h1 h2
   have s:=t.same a q (Nat.le_refl _) (by omega) (by omega) h2
   unfold Bf
   omega
 intro p q h1 h2 h3
 rw[h p,h q]
 unfold upI
 by_cases c1:a≤p∧p<i-1
 ·rw[if_pos c1]
  by_cases c2:a≤q∧q<i-1
  ·rw[if_pos c2]
   exact t.right _ _ (by omega) (by omega) (by omega)
  ·rw[if_neg c2]
   by_cases c3:q=i-1
   ·rw[if_pos c3]
    exact ahead_ _ (by omega) (by omega)
   ·rw[if_neg c3]
    exact t.right _ _ (by omega) (by omega) (by omega)
 ·have c2:¬(a≤q∧q<i-1):=by omega
  have c3:¬(q=i-1):=by omega
  rw[if_neg c1,if_neg c2,if_neg c3]
  by_cases c4:p=i-1
  ·rw[if_pos c4]
   exact behind_ _ (by omega) h3
  ·rw[if_neg c4]
   exact t.right _ _ (by omega) (by omega) (by omega)
def dnI (m k x:Nat):Nat:=if k<x∧x≤m then x-1 else if x=k then m else x
theorem dnI_start (m x:Nat):dnI m m x=x:=by
 unfold dnI
 split
 ·omega
 ·split<;>omega
theorem dn_step {d dk:Array Nat}{m k:Nat}(hkm:k+1≤m)(hs:dk.size=d.size)(hk:m<d.size)(h:∀ x,dk[x]! = d[dnI m (k+1) x]!)(x:Nat):(swp dk (k+1) k)[x]! = d[dnI m k x]!:=by
 rw[swp_get dk (by omega) (by omega) x]
 by_cases c1:x=k
 ·rw[if_pos c1,h]
  congr 1
  unfold dnI
  rw[if_neg (by omega),if_pos rfl,if_neg (by omega),if_pos c1]
 ·rw[if_neg c1]
  by_cases c2:x=k+1
  ·rw[if_pos c2,h]
   congr 1
   subst c2
   unfold dnI
   rw[if_neg (by omega),if_neg (by omega),if_pos (by omega)]
   omega
  ·rw[if_neg c2,h]
   congr 1
   unfold dnI
   by_cases c3:k+1<x∧x≤m
   ·rw[if_pos c3,if_pos (by omega)]
   ·have c4:¬(k<x∧x≤m):=by omega
    rw[if_neg c3,if_neg c4,if_neg c2,if_neg c1]
theorem dn_mv {d dk:Array Nat}{a m k:Nat}(hak:a≤k)(hkm:k≤m)(hs:dk.size=d.size)(h:∀ x,dk[x]! = d[dnI m k x]!):Mv a (m+1) d dk:=by
 refine Mv.of hs (dnI m k) h (fun x hx=>?_) (fun x h1 h2=>?_)
 ·unfold dnI
  rw[if_neg (by omega),if_neg (by omega)]
 ·unfold dnI
  split
  ·omega
  ·split<;>omega
theorem dn_srt {sc:Nat→Int}{d dk:Array Nat}{a m i:Nat}(t:Two sc d a m (m+1))(hai:a≤i)(him:i≤m)
  (lo:i=a∨¬sc d[i-1]! < sc d[m]!) (hi2:i=m∨sc d[i]! < sc d[m]!) (h:∀ x,dk[x]! = d[dnI m i x]!):Srt sc dk a (m+1):=by
 have ahead_:∀ q,a≤q→q<i→Bf sc d[q]! d[m]!:=fun q h1 h2=>by
  rcases lo with lo|lo
  ·omega
  ·have:=t.left.sc_le h1 (show q≤i-1 by omega) (by omega)
   have s:=t.same q m h1 (by omega) (Nat.le_refl _) (by omega)
   unfold Bf
   omega
 have behind_:∀ q,i≤q→q<m→Bf sc d[m]! d[q]!:=fun q h1 h2=>by
  left
  rcases hi2 with e|e
  ·omega
  ·have:=t.left.sc_le hai h1 h2
   omega
 intro p q h1 h2 h3
 rw[h p,h q]
 unfold dnI
 by_cases c1:i<p∧p≤m
 ·have c2:i<q∧q≤m:=by omega
  rw[if_pos c1,if_pos c2]
  exact t.left _ _ (by omega) (by omega) (by omega)
 ·rw[if_neg c1]
  by_cases c3:p=i
  ·have c2:i<q∧q≤m:=by omega
   rw[if_pos c3,if_pos c2]
   exact behind_ _ (by omega) (by omega)
  ·rw[if_neg c3]
   by_cases c2:i<q∧q≤m
   ·rw[if_pos c2]
    exact t.left _ _ (by omega) (by omega) (by omega)
   ·rw[if_neg c2]
    by_cases c4:q=i
    ·rw[if_pos c4]
     exact ahead_ _ (by omega) (by omega)
    ·rw[if_neg c4]
     exact t.left _ _ (by omega) (by omega) (by omega)
structure Cut (sc:Nat→Int) (d:Array Nat) (a s mid e b:Nat):Prop where
 first:Two sc d a s mid
 second:Two sc d mid e b
 cross:∀ i j,a≤i→i<mid→mid≤j→j<b→Bf sc d[i]! d[j]!
theorem cut_of {sc:Nat→Int}{d dF:Array Nat}{a m b s mid:Nat}(t:Two sc d a m b)(has:a≤s)(hsm:s≤m)(hs:s≤mid)(hmb:mid+m-s≤b)
  (lo:(s=a∨mid+m-s=b)∨(mid+m-s<b∧sc d[mid+m-s]!≤sc d[s-1]!)) (hi:(s=m∨s=mid)∨sc d[s]! < sc d[mid+m-s-1]!) (h:Rot s m (mid+m-s) d dF):Cut sc dF a s mid (mid+m-s) b:=by
 have g1:∀ x,x<s→dF[x]! = d[x]!:=fun x hx=>by
  rw[h x];unfold rotI;rw[if_neg (by omega),if_neg (by omega)]
 have g2:∀ x,s≤x→x<mid→dF[x]! = d[x+(m-s)]!:=fun x h1 h2=>by
  rw[h x];unfold rotI;rw[if_pos (by omega)]
 have g3:∀ x,mid≤x→x<mid+m-s→dF[x]! = d[x-(mid-s)]!:=fun x h1 h2=>by
  rw[h x];unfold rotI;rw[if_neg (by omega),if_pos (by omega)]
  congr 1
  omega
 have g4:∀ x,mid+m-s≤x→dF[x]! = d[x]!:=fun x h1=>by
  rw[h x];unfold rotI
  rw[if_neg (by omega),if_neg (by omega)]
 refine⟨⟨fun i j h1 h2 h3=>?_,fun i j h1 h2 h3=>?_,fun i j h1 h2 h3 h4=>?_⟩,⟨fun i j h1 h2 h3=>?_,fun i j h1 h2 h3=>?_,fun i j h1 h2 h3 h4=>?_⟩,fun i j h1 h2 h3 h4=>?_⟩
 ·rw[g1 i (by omega),g1 j h3]
  exact t.left i j h1 h2 (by omega)
 ·rw[g2 i h1 (by omega),g2 j (by omega) h3]
  exact t.right _ _ (by omega) (by omega) (by omega)
 ·rw[g1 i h2,g2 j h3 h4]
  exact t.same _ _ h1 (by omega) (by omega) (by omega)
 ·rw[g3 i h1 (by omega),g3 j (by omega) h3]
  exact t.left _ _ (by omega) (by omega) (by omega)
 ·rw[g4 i h1,g4 j (by omega)]
  exact t.right _ _ (by omega) (by omega) (by omega)
 ·rw[g3 i h1 h2,g4 j h3]
  exact t.same _ _ (by omega) (by omega) (by omega) (by omega)
 ·by_cases ci:i<s
  ·rw[g1 i ci]
   by_cases cj:j<mid+m-s
   ·rw[g3 j h3 cj]
    exact t.left _ _ h1 (by omega) (by omega)
   ·rw[g4 j (by omega)]
    rcases lo with lo|lo
    ·omega
    ·have e1:=t.left.sc_le h1 (show i≤s-1 by omega) (by omega)
     have e2:=t.right.sc_le (show m≤mid+m-s by omega) (show mid+m-s≤j by omega) h4
     have e3:=t.same i j h1 (by omega) (by omega) h4
     unfold Bf
     omega
  ·rw[g2 i (by omega) h2]
   by_cases cj:j<mid+m-s
   ·rw[g3 j h3 cj]
    rcases hi with hi|hi
    ·omega
    ·have e1:=t.left.sc_le (show a≤s from has) (show s≤j-(mid-s) by omega) (by omega)
     have e2:=t.right.sc_le (show m≤i+(m-s) by omega) (show i+(m-s)≤mid+m-s-1 by omega) (by omega)
     unfold Bf
     omega
   ·rw[g4 j (by omega)]
    exact t.right _ _ (by omega) (by omega) h4
theorem Cut.join {sc:Nat→Int}{d d1 d2:Array Nat}{a s mid e b:Nat}(c:Cut sc d a s mid e b)(m1:Mv a mid d d1)(s1:Srt sc d1 a mid)(m2:Mv mid b d1 d2)(s2:Srt sc d2 mid b):Srt sc d2 a b:=by
 intro i j h1 h2 h3
 by_cases ci:i<mid
 ·by_cases cj:j<mid
  ·rw[m2.out i (by omega),m2.out j (by omega)]
   exact s1 i j h1 h2 cj
  ·rw[m2.out i (by omega)]
   obtain⟨y,y1,y2,ey⟩:=m1.from_ i h1 ci
   obtain⟨z,z1,z2,ez⟩:=m2.from_ j (by omega) h3
   rw[ey,ez,m1.out z (by omega)]
   exact c.cross y z y1 y2 z1 z2
 ·exact s2 i j (by omega) h2 h3
theorem Two.moved {sc:Nat→Int}{d d1:Array Nat}{a b p e q:Nat}(t:Two sc d p e q)(m:Mv a b d d1)(ho:q≤a∨b≤p)(h1:p≤e)(h2:e≤q):Two sc d1 p e q :=
 ⟨t.left.out m (by omega),t.right.out m (by omega),fun i j i1 i2 i3 i4=>by
  rw[m.out i (by omega),m.out j (by omega)]
  exact t.same i j i1 i2 i3 i4⟩
end
section
open Go.Sort
def BlkTo (sc:Nat→Int)(s:Nat)(d:Array Nat)(p:Nat):Prop:=∀ i j,i<j→j<p→i/s=j/s→Bf sc d[i]! d[j]!
def BlkFrom (sc:Nat→Int)(s:Nat)(d:Array Nat)(p n:Nat):Prop:=∀ i j,p≤i→i<j→j<n→i/s=j/s→Bf sc d[i]! d[j]!
theorem same_blk {s p i:Nat}(hs:0<s)(hp:s ∣ p)(h1:p≤i)(h2:i<p+s):i/s=p/s:=by
 obtain⟨t,rfl⟩:=hp
 obtain⟨r,rfl⟩:∃ r,i=s*t+r:=⟨i-s*t,by omega⟩
 rw[Nat.mul_add_div hs,Nat.div_eq_of_lt (by omega),Nat.mul_div_cancel_left t hs,Nat.add_zero]
theorem blk_ge {s p i j:Nat}(hp:s ∣ p)(h1:p≤j)(e:i/s=j/s):p≤i:=by
 have h2:p/s≤j/s:=Nat.div_le_div_right h1
 have h3:p/s*s=p:=Nat.div_mul_cancel hp
 have h4:i/s*s≤i:=Nat.div_mul_le_self i s
 have h5:=Nat.mul_le_mul_right s (show p/s≤i/s by rw[e];exact h2)
 omega
theorem BlkTo.step {sc:Nat→Int}{s p q:Nat}{d d':Array Nat}(h:BlkTo sc s d p)(hp:s ∣ p)(m:Mv p q d d')(t:Srt sc d' p q):BlkTo sc s d' q:=fun i j h1 h2 e=>by
 by_cases hj:j<p
 ·rw[m.out i (by omega),m.out j (by omega)]
  exact h i j h1 hj e
 ·exact t i j (blk_ge hp (by omega) e) h1 h2
theorem BlkFrom.srt {sc:Nat→Int}{s p x n:Nat}{d:Array Nat}(h:BlkFrom sc s d p n)(hs:0<s)(hx:s ∣ x)(hpx:p≤x){y:Nat}(hy:y≤x+s)(hyn:y≤n):Srt sc d x y:=fun i j h1 h2 h3 =>
 h i j (by omega) h2 (by omega) ((same_blk hs hx h1 (by omega)).trans (same_blk hs hx (by omega) (by omega)).symm)
theorem BlkFrom.moved {sc:Nat→Int}{s p q n:Nat}{d d':Array Nat}(h:BlkFrom sc s d p n)(m:Mv p q d d')(hpq:p≤q):BlkFrom sc s d' q n:=fun i j h1 h2 h3 e=>by
 rw[m.out i (by omega),m.out j (by omega)]
 exact h i j (by omega) h2 h3 e
theorem BlkTo.from_ {sc:Nat→Int}{s n:Nat}{d:Array Nat}(h:BlkTo sc s d n):BlkFrom sc s d 0 n:=fun i j _ h2 h3 e=>h i j h2 h3 e
theorem BlkTo.all {sc:Nat→Int}{s n:Nat}{d:Array Nat}(h:BlkTo sc s d n)(hs:n≤s):Srt sc d 0 n:=fun i j _ h2 h3=>h i j h2 h3 (by rw[Nat.div_eq_of_lt (by omega),Nat.div_eq_of_lt (by omega)])
structure beHeld (sc:Nat→Int) (n:Nat) (d dk:Array Nat):Prop where
 mv:Mv 0 n d dk
 eqo:EqO sc dk 0 n
theorem beHeld.step {sc:Nat→Int}{n p q:Nat}{d dk dF:Array Nat}(h:beHeld sc n d dk)(m:Mv p q dk dF)(s:Srt sc dF p q)(hq:q≤n):beHeld sc n d dF :=
 ⟨h.mv.trans (m.mono (Nat.zero_le _) hq),h.eqo.moved m s hq⟩
end
end Go.Proofs.YtbkjhfmehemgpaaGreat

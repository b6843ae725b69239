/- Texts put together. -/
import Derived.Test.YtbkjhfmehemgpaaGreatFb21
import Derived.Test.YtbkjhfmehemgpaaGreatFb23
import Derived.Test.YtbkjhfmehemgpaaGreatFb11
namespace Go.Proofs.YtbkjhfmehemgpaaGreat
set_option maxRecDepth 20000
set_option maxHeartbeats 16000000
open Go.ChangeShapes Go.WideShapes Go.ChangeAt Go.RowKit
set_option linter.unusedVariables false
set_option linter.unusedSimpArgs false
theorem finals_len (L:Nat→Bm)(n:Nat)(p:Int):(finals L n p).length=n:=by simp[finals]
theorem finals_at (L:Nat→Bm)(n:Nat)(p:Int){i:Nat}(h:i<n):(finals L n p).getD i 0=finalZ (L i) p:=by simp[finals,List.getD,h]
theorem max_is {xs:List Int}{n b:Nat}(hl:xs.length=n)(hb:b<n)(h:∀ j,j<n→j≠b→ahead xs b j=true):maxZ xs=(b:Nat):=by
 unfold maxZ
 rw[if_neg (by omega)]
 have P:=places_ordered xs
 rw[hl] at P
 have r:rankTo xs n b=0:=by
  unfold rankTo
  rw[List.countP_eq_zero]
  intro j hj
  have hj':=List.mem_range.1 hj
  by_cases e:j=b
  ·subst e;rw[ahead_irrefl];decide
  ·rw[ahead_asymm (h j hj' e)];decide
 rw[(P.rank_iff hb (by omega)).1 r]
theorem Best_call (a0:Option Addr)(n ca:Nat)(A:Nat→Option Addr)(C:Nat→Nat)(L:Nat→Bm)(p:Int)(w:World)(h0:BmAt w a0 n A C L) :
  Calls Tryz.prog 84 #[.slice a0 n ca,.int .i64 p] w fun e w'=>e=.returned (.int .i64 (maxZ (finals L n p)))∧Below w.heap.size w w':=by
 have hm:=h0.max
 have H0:Hid (BmAt w a0 n A C L):=h0
 obtain⟨Z,eZ⟩:∃ Z,maxZ (finals L n p)=Z:=⟨_,rfl⟩
 rw[eZ]
 have HZ:Hid (maxZ (finals L n p)=Z):=eZ
 clear h0 eZ
 go_enter Tryz.func84,Tryz.ntmps84
 go_wp2
 go_loopw [5,6,12] (fun b g i wr=>∃ (k:Nat) (z y:Int),k≤n∧i=.int .i64 k∧b=.int .i64 z∧g=.int .i64 y∧Below w.heap.size w wr∧Hid ((k=0∧z = -1∧y=0)∨∃ q:Nat,z=(q:Int)∧q<k∧y=finalZ (L q) p∧∀ j,j<k→j≠q→ahead (finals L n p) q j=true)) (fun _ _ i _=>n-(intOf i).toNat)
 case atStart=>exact⟨0,-1,0,Nat.zero_le _,rfl,rfl,rfl,Below.refl _ _,.inl ⟨rfl,rfl,rfl⟩⟩
 case round =>
  obtain⟨k,z,yy,hk,rfl,rfl,rfl,hbr,HQ⟩:=hrel
  by_cases hlt:k<n
  ·obtain⟨x,hx⟩:=H0.out.some_ (by omega)
   subst hx
   have hr:=H0.out.below hbr
   obtain⟨y,ey,d0,d1,d2⟩:=hr.at3 hlt
   have ww:=H0.out.wf k hlt
   have tm:=(hr.row k hlt).max
   have kf:=fun W=>final_call (A k) (L k).t.length (C k) (L k).s p (L k).f ww tm W
   have EF:Hid (divZ (L k).s (65536+4096*(min 64 (max 0 p))*(min 1000 ((L k).t.length:Int)))=finalZ (L k) p):=show _=_ from rfl
   rw[EF.out] at kf
   have bb:=bNw hbr (.cells #[.slice (A k) (L k).t.length (C k),.int .i64 (L k).s,.bool (L k).f] 135)
   have fk:=finals_at L n p hlt
   rcases HQ.out with⟨k0,z0,y0⟩|⟨q,z0,hqk,y0,hq⟩
   ·subst z0
    subst y0
    have HK:Hid (k=0):=k0
    obtain⟨V,eV⟩:∃ V,finalZ (L k) p=V:=⟨_,rfl⟩
    rw[eV] at kf
    have HV:Hid (finalZ (L k) p=V):=eV
    clear EF eV fk k0 HQ hr
    go_wp2_with (go_at_call 119;refine (kf _).mono ?_;rintro e w3 ⟨rfl,hb3⟩)
    have b3:=bTn bb hb3
    go_roundw
    case rel=>exact⟨k+1,(k:Int),V,by omega,by go_num,rfl,rfl,b3,.inr ⟨k,rfl,by omega,HV.out.symm,fun j hj hne=>by have:=HK.out;omega⟩⟩
    case measure=>simp[intOf];omega
   ·subst z0
    have fq:=finals_at L n p (show q<n by omega)
    have HQ2:Hid (∀ j,j<k→j≠q→ahead (finals L n p) q j=true):=hq
    have hq0:¬((q:Int)<0):=by omega
    have aw:=fun i j=>ahead_iff (finals L n p) i j
    have AW:Hid _:=aw
    obtain⟨V,eV⟩:∃ V,finalZ (L k) p=V:=⟨_,rfl⟩
    rw[eV] at kf fk
    have HV:Hid (finalZ (L k) p=V):=eV
    have HFK:Hid ((finals L n p).getD k 0=V):=fk
    have HFQ:Hid ((finals L n p).getD q 0=yy):=show (finals L n p).getD q 0=yy by rw[y0];exact fq
    have HY:Hid (yy=finalZ (L q) p):=y0
    clear EF eV fk fq hq HQ hr y0 aw
    by_cases hgt:yy<V
    ·go_wp2_with (go_at_call 119;refine (kf _).mono ?_;rintro e w3 ⟨rfl,hb3⟩)
     have b3:=bTn bb hb3
     go_roundw
     case rel=>exact⟨k+1,(k:Int),V,by omega,by go_num,rfl,rfl,b3,.inr ⟨k,rfl,by omega,HV.out.symm,fun j hj hne=>by
      rw[AW.out,HFK.out]
      by_cases e:j=q
      ·subst e;rw[HFQ.out];exact .inl hgt
      ·have:=(AW.out q j).1 (HQ2.out j (by omega) e)
       rw[HFQ.out] at this
       exact .inl (by omega)⟩⟩
     case measure=>simp[intOf];omega
    ·go_wp2_with (go_at_call 119;refine (kf _).mono ?_;rintro e w3 ⟨rfl,hb3⟩)
     have b3:=bTn bb hb3
     go_roundw
     case rel=>exact⟨k+1,(q:Int),yy,by omega,by go_num,rfl,rfl,b3,.inr ⟨q,rfl,by omega,HY.out,fun j hj hne=>by
      by_cases e:j=k
      ·subst e
       rw[AW.out,HFK.out,HFQ.out]
       omega
      ·exact HQ2.out j (by omega) hne⟩⟩
     case measure=>simp[intOf];omega
  ·obtain rfl:k=n:=by omega
   have HE:Hid (z=Z):=by
    show z=Z
    rw[←HZ.out]
    rcases HQ.out with⟨k0,z0,y0⟩|⟨q,z0,hqk,y0,hq⟩
    ·rw[z0]
     unfold maxZ
     rw[finals_len,if_pos k0]
    ·rw[z0]
     exact (max_is (finals_len L k p) hqk hq).symm
   clear HQ HZ
   go_wp2
   go_ret
   exact⟨by have:=HE.out;subst this;rfl,hbr⟩
end Go.Proofs.YtbkjhfmehemgpaaGreat

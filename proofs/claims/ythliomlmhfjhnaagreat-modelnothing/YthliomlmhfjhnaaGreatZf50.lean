/- Texts put together. -/
import Derived.Test.YthliomlmhfjhnaaGreatRows
import Derived.Test.YthliomlmhfjhnaaGreatZf49
namespace Go.Proofs.YthliomlmhfjhnaaGreat
set_option maxRecDepth 20000
set_option maxHeartbeats 16000000
open Go.ChangeShapes Go.WideShapes Go.ChangeAt Go.RowKit
set_option linter.unusedVariables false
set_option linter.unusedSimpArgs false
section
theorem TA.len {B:Nat}{w:World}{a:Option Addr}{n' c n:Nat}{Y:Nat→Nat→SL}{f:Nat→Nat→List Int}(h:TA B w (.slice a n' c) n Y f):n'=n:=by
 rcases h.own.2 with⟨e,e0⟩|⟨g,cap,cur,e,_⟩
 ·simp only[Value.slice.injEq] at e
  omega
 ·simp only[Value.slice.injEq] at e
  omega
theorem nothing_walk (cd ch cl cv cu cx ct cn s r:Int)(ta:Option Addr)(tn tc:Nat)(tz:List Int)(w:World)(hs:(Lit.int .u64 s).wf=true)(ht:Reads .i64 w ta tn tz) :
  Calls Tryz.prog 7 #[.agg #[.int .i64 cd,.int .i64 ch,.int .i64 cl,.int .i64 cv,.int .i64 cu,.int .i64 cx,.int .i64 ct,.int .i64 cn,.int .u64 s,.int .i64 r,.slice ta tn tc]] w fun e w'=>e=.returned (.bool true)∧Below w.heap.size w w':=by
 have hb:=bNw (Below.refl w.heap.size w) (.cells #[.int .i64 cd,.int .i64 ch,.int .i64 cl,.int .i64 cv,.int .i64 cu,.int .i64 cx,.int .i64 ct,.int .i64 cn,.int .u64 s,.int .i64 r,.slice ta tn tc] 47)
 have qk:=Blk.new 47 w #[.int .i64 cd,.int .i64 ch,.int .i64 cl,.int .i64 cv,.int .i64 cu,.int .i64 cx,.int .i64 ct,.int .i64 cn,.int .u64 s,.int .i64 r,.slice ta tn tc]
 have k26:=works_call
 have htm:=ht.max
 have HT:=hdn ht
 clear ht
 obtain⟨k0,k1,k2,k3,k4,k5,k6,k7,k8,k9,k10⟩:=qk.c11
 cases ok:okB cd ch cl cv cu cx ct cn with
 | false =>
  have k19:=fun W=>model_no cd ch cl cv cu cx ct cn s ok W
  go_enter Tryz.func7,Tryz.ntmps7
  go_wp2_with (first
   | (go_at_call 26;refine (k26 _).mono ?_;rintro e W1 ⟨rfl,h1⟩;replace hb:=bTn hb h1;replace qk:=qk.kept h1;clear h1 k26 k0 k1 k2 k3 k4 k5 k6 k7 k8 k9 k10;obtain⟨k0,k1,k2,k3,k4,k5,k6,k7,k8,k9,k10⟩:=qk.c11)
   | (go_at_call 19;refine (k19 _).mono ?_;rintro e W2 ⟨t1,rfl,hN,h2⟩;replace hb:=bTn hb h2;replace qk:=qk.kept h2;obtain⟨W3,eW3⟩:∃ W,W2.alloc (.cells #[.int .i64 0,.int .i64 0,.int .i64 0,.int .i64 0,.int .i64 0,.int .i64 0,.int .i64 0,.int .i64 0,.slice t1.E.a t1.E.n t1.E.c,.slice t1.L.a t1.L.n t1.L.c,.slice t1.N.a t1.N.n t1.N.c,.slice t1.O.a t1.O.n t1.O.c] 27)=W:=⟨_,rfl⟩;have n3:Below W2.heap.size W2 W3:=eW3 ▸ bNw (Below.refl _ _) _;have qm:Blk 27 W3 W2.heap.size #[.int .i64 0,.int .i64 0,.int .i64 0,.int .i64 0,.int .i64 0,.int .i64 0,.int .i64 0,.int .i64 0,.slice t1.E.a t1.E.n t1.E.c,.slice t1.L.a t1.L.n t1.L.c,.slice t1.N.a t1.N.n t1.N.c,.slice t1.O.a t1.O.n t1.O.c]:=eW3 ▸ Blk.new 27 W2 _;have m1:=(hN.below n3) _ (fun _ _ hp _=>hp);replace hb:=bTn hb n3;replace qk:=qk.kept n3;clear h2 hN n3 k19 k0 k1 k2 k3 k4 k5 k6 k7 k8 k9 k10;obtain⟨k0,k1,k2,k3,k4,k5,k6,k7,k8,k9,k10⟩:=qk.c11))
  go_ret
  exact⟨rfl,hb⟩
 | true =>
  obtain⟨m,em⟩:∃ m,shapeV cd cl cv cu cx (wtL s (szZ cd cl cv cu cx).toNat)=m:=⟨_,rfl⟩
  obtain⟨R,eR⟩:∃ R,adR r=R:=⟨_,rfl⟩
  obtain⟨S,eS⟩:∃ S,adS r s=S:=⟨_,rfl⟩
  obtain⟨ad9,ea⟩:∃ a,adV r cd cl s=a:=⟨_,rfl⟩
  have hE:badE (Md.mk cd ch cl cv cu cx ct cn m R S ad9)=0:=by
   have h9:=made_bad ok s r
   unfold made at h9
   rw[em,eR,eS,ea] at h9
   exact h9
  have k19:=fun W=>model_yes cd ch cl cv cu cx ct cn s ok W
  have k20:=fun W=>adapt_call r cd ch cl cv cu cx ct cn s ok hs W
  simp only[em] at k19
  simp only[eR,eS,ea] at k20
  have K20:=hdn k20
  have HE:=hdn hE
  have HSH:Hid (ad9.ln≤2∧∀ i j,(ad9.f i j).length≤32):=ea ▸ adV_short ok r s
  have HFA:Hid (FitsA ad9):=⟨by have:=HSH.out.1;omega,fun i _ j _=>by have:=HSH.out.2 i j;omega⟩
  have H0:Hid (R=0→ad9=noA):=fun h=>by rw[←ea];unfold adV;rw[eR,if_pos h]
  clear em eR eS ea k20 hE
  by_cases hl:30<tn
  ·have hl':(30:Int)<(tn:Int):=by omega
   go_enter Tryz.func7,Tryz.ntmps7
   go_wp2_with (first
    | (go_at_call 26;refine (k26 _).mono ?_;rintro e W1 ⟨rfl,h1⟩;replace hb:=bTn hb h1;replace qk:=qk.kept h1;clear h1 k26 k0 k1 k2 k3 k4 k5 k6 k7 k8 k9 k10;obtain⟨k0,k1,k2,k3,k4,k5,k6,k7,k8,k9,k10⟩:=qk.c11)
    | (go_at_call 19;refine (k19 _).mono ?_;rintro e W2 ⟨t1,rfl,hN,h2⟩;replace hb:=bTn hb h2;replace qk:=qk.kept h2;obtain⟨W3,eW3⟩:∃ W,W2.alloc (.cells #[.int .i64 cd,.int .i64 ch,.int .i64 cl,.int .i64 cv,.int .i64 cu,.int .i64 cx,.int .i64 ct,.int .i64 cn,.slice t1.E.a t1.E.n t1.E.c,.slice t1.L.a t1.L.n t1.L.c,.slice t1.N.a t1.N.n t1.N.c,.slice t1.O.a t1.O.n t1.O.c] 27)=W:=⟨_,rfl⟩;have n3:Below W2.heap.size W2 W3:=eW3 ▸ bNw (Below.refl _ _) _;have qm:Blk 27 W3 W2.heap.size #[.int .i64 cd,.int .i64 ch,.int .i64 cl,.int .i64 cv,.int .i64 cu,.int .i64 cx,.int .i64 ct,.int .i64 cn,.slice t1.E.a t1.E.n t1.E.c,.slice t1.L.a t1.L.n t1.L.c,.slice t1.N.a t1.N.n t1.N.c,.slice t1.O.a t1.O.n t1.O.c]:=eW3 ▸ Blk.new 27 W2 _;have m1:=(hN.below n3) _ (fun _ _ hp _=>hp);replace hb:=bTn hb n3;replace qk:=qk.kept n3;clear h2 hN n3 k19 k0 k1 k2 k3 k4 k5 k6 k7 k8 k9 k10;obtain⟨k0,k1,k2,k3,k4,k5,k6,k7,k8,k9,k10⟩:=qk.c11))
   go_ret
   exact⟨rfl,hb⟩
  have hl':¬(30:Int)<(tn:Int):=by omega
  cases hB:runB (Md.mk cd ch cl cv cu cx ct cn m R S ad9) tz tn with
  | false =>
   have HBB:=hdn hB
   clear hB
   go_enter Tryz.func7,Tryz.ntmps7
   go_wp2_with (first
    | (go_at_call 26;refine (k26 _).mono ?_;rintro e W1 ⟨rfl,h1⟩;replace hb:=bTn hb h1;replace qk:=qk.kept h1;clear h1 k26 k0 k1 k2 k3 k4 k5 k6 k7 k8 k9 k10;obtain⟨k0,k1,k2,k3,k4,k5,k6,k7,k8,k9,k10⟩:=qk.c11)
    | (go_at_call 19;refine (k19 _).mono ?_;rintro e W2 ⟨t1,rfl,hN,h2⟩;replace hb:=bTn hb h2;replace qk:=qk.kept h2;obtain⟨W3,eW3⟩:∃ W,W2.alloc (.cells #[.int .i64 cd,.int .i64 ch,.int .i64 cl,.int .i64 cv,.int .i64 cu,.int .i64 cx,.int .i64 ct,.int .i64 cn,.slice t1.E.a t1.E.n t1.E.c,.slice t1.L.a t1.L.n t1.L.c,.slice t1.N.a t1.N.n t1.N.c,.slice t1.O.a t1.O.n t1.O.c] 27)=W:=⟨_,rfl⟩;have n3:Below W2.heap.size W2 W3:=eW3 ▸ bNw (Below.refl _ _) _;have qm:Blk 27 W3 W2.heap.size #[.int .i64 cd,.int .i64 ch,.int .i64 cl,.int .i64 cv,.int .i64 cu,.int .i64 cx,.int .i64 ct,.int .i64 cn,.slice t1.E.a t1.E.n t1.E.c,.slice t1.L.a t1.L.n t1.L.c,.slice t1.N.a t1.N.n t1.N.c,.slice t1.O.a t1.O.n t1.O.c]:=eW3 ▸ Blk.new 27 W2 _;have m1:=(hN.below n3) _ (fun _ _ hp _=>hp);replace hb:=bTn hb n3;replace qk:=qk.kept n3;clear h2 hN n3 k19 k0 k1 k2 k3 k4 k5 k6 k7 k8 k9 k10;obtain⟨k0,k1,k2,k3,k4,k5,k6,k7,k8,k9,k10⟩:=qk.c11)
    | (go_at_call 20;refine (K20.out _).mono ?_;rintro e W4 ⟨t2,rfl,hNA,h4⟩;have ad1:=hNA _ (fun _ _ hp _=>hp);replace hb:=bTn hb h4;replace qk:=qk.kept h4;replace qm:=qm.kept h4;replace m1:=m1.below h4;have HK:=hdn (And.intro hb (And.intro qk (And.intro qm m1)));clear h4 hNA K20 hb qk qm m1 k0 k1 k2 k3 k4 k5 k6 k7 k8 k9 k10)
    | (go_at_call 10;refine (grown_typed R S t2.1.a t2.1.n t2.1.c t2.1 t2.2 ad9 _ ad1 HFA.out rfl ad1.len.symm).mono ?_;rintro e W5 ⟨La,Ya,rfl,tA,h5⟩;obtain⟨W6,eW6⟩:∃ W,W5.alloc (.cells #[.int .i64 R,.int .i64 S,.slice La.a La.n La.c] 30)=W:=⟨_,rfl⟩;have n6:Below W5.heap.size W5 W6:=eW6 ▸ bNw (Below.refl _ _) _;have qa:Blk 30 W6 W5.heap.size #[.int .i64 R,.int .i64 S,.slice La.a La.n La.c]:=eW6 ▸ Blk.new 30 W5 _;replace tA:=tA.below n6;have b46:=bTn h5 n6;clear h5 n6 ad1))
   have hmn:La.n=ad9.ln:=tA.len
   have tA0:TA W4.heap.size W6 (.slice La.a La.n La.c) ad9.ln Ya (nilF ad9.f 0):=by rw[nilF_zero];exact tA
   clear tA
   have hln:ad9.ln≤2:=HSH.out.1
   go_wp2
   go_loopw [6] (fun i wr=>∃ k:Nat,k≤ad9.ln∧i=.int .i64 k∧Below W4.heap.size W4 wr∧Blk 30 wr W5.heap.size #[.int .i64 R,.int .i64 S,.slice La.a La.n La.c]∧∃ Y,TA W4.heap.size wr (.slice La.a La.n La.c) ad9.ln Y (nilF ad9.f k)) (fun i _=>ad9.ln-(intOf i).toNat)
   case atStart=>exact⟨0,Nat.zero_le _,rfl,b46,qa,Ya,tA0⟩
   case round =>
    obtain⟨k,hk,rfl,hbr,qr,Y,tY⟩:=hrel
    obtain⟨r0,r1,r2⟩:=qr.c3
    by_cases hlt:k<ad9.ln
    ·have hlt':(k:Int)<(La.n:Int):=by omega
     rcases tY.own.2 with⟨e,e0⟩|⟨g,cap,cur,e,hg,hh,hcap,hm,hc1,hc2⟩
     ·omega
     have eLa:La=⟨some ⟨g,0,none⟩,ad9.ln,cap⟩:=SL.v_inj e
     have qg:Blk 61 wr g cur:=hh
     have atc:∀ j,j<4→cur[k*4+j]? = some (Y k j).v:=fun j hj=>by
      have:=cells4_at Y ad9.ln k j hlt hj
      rw[←hc2,List.getElem?_take_of_lt (by omega),Array.getElem?_toList] at this
      exact this
     have ln1:(Y k 1).n≤100000:=by
      have:=(tY.lay k hlt 1 (by omega)).is.reads.len
      rw[nilF_length] at this
      have:=HSH.out.2 k 1
      omega
     have ln3:(Y k 3).n≤100000:=by
      have:=(tY.lay k hlt 3 (by omega)).is.reads.len
      rw[nilF_length] at this
      have:=HSH.out.2 k 3
      omega
     have hab:W5.heap.size≠g:=qr.apart qg (by decide)
     have H9:=hdn (And.intro hbr (And.intro tY (And.intro qr (And.intro hg hab))))
     have eL9:=hdn eLa
     have HH9:=hdn (And.intro qg (And.intro qr (And.intro hab atc)))
     clear tY hc1 hc2 hm hcap hbr e hg hh eLa qg qr hab atc
     go_wp2
     obtain⟨qg,qr,hab,atc⟩:=HH9.out
     refine nt10_region W5.heap.size g ad9.ln cap k (Y k 1) (Y k 3) cur (fun w' on=>by have:=(qr.only on hab).cell 2 rfl;rw[eL9.out] at this;exact this) qg hlt (by omega) (atc 1 (by omega)) (atc 3 (by omega)) ln1 ln3 (by kernel_rfl) rfl ⟨_,rfl,rfl,rfl,rfl,by kernel_rfl⟩ ⟨_,rfl,rfl,rfl,rfl,by kernel_rfl⟩ ⟨_,rfl,rfl,rfl,rfl,by kernel_rfl⟩ ⟨_,rfl,rfl,rfl,rfl,by kernel_rfl⟩ ⟨_,rfl,rfl,rfl,rfl,by kernel_rfl⟩ ⟨_,rfl,rfl,rfl,rfl,by kernel_rfl⟩ ⟨_,rfl,rfl,rfl,rfl,by kernel_rfl⟩ ⟨_,rfl,rfl,rfl,rfl,by kernel_rfl⟩ ⟨_,rfl,rfl,rfl,rfl,by kernel_rfl⟩ ⟨_,rfl,rfl,rfl,rfl,by kernel_rfl⟩ ⟨_,rfl,rfl,rfl,rfl,by kernel_rfl⟩ ⟨_,rfl,rfl,rfl,rfl,by kernel_rfl⟩ ⟨_,rfl,rfl,rfl,rfl,by kernel_rfl⟩ ⟨_,rfl,rfl,rfl,rfl,by kernel_rfl⟩ ⟨_,rfl,rfl,rfl,rfl,by kernel_rfl⟩ ⟨_,rfl,rfl,rfl,rfl,by kernel_rfl⟩ ⟨_,rfl,rfl,rfl,rfl,by kernel_rfl⟩ ⟨_,rfl,rfl,rfl,rfl,by kernel_rfl⟩ ⟨_,rfl,rfl,rfl,rfl,by kernel_rfl⟩ ⟨_,rfl,rfl,rfl,rfl,by kernel_rfl⟩ ⟨_,rfl,rfl,rfl,rfl,by kernel_rfl⟩ ⟨_,rfl,rfl,rfl,rfl,by kernel_rfl⟩ ⟨_,rfl,rfl,rfl,rfl,by kernel_rfl⟩ ⟨_,rfl,rfl,rfl,rfl,by kernel_rfl⟩ ⟨_,rfl,rfl,rfl,rfl,by kernel_rfl⟩ ⟨_,rfl,rfl,rfl,rfl,by kernel_rfl⟩ ⟨_,rfl,rfl,rfl,rfl,by kernel_rfl⟩ ⟨_,rfl,rfl,rfl,rfl,by kernel_rfl⟩ rfl rfl (Nat.le_of_ble_eq_true rfl) ?_
     intro af Wf b1 b3 hs' hd' hkp' on g1 g3 q1 q3 hrow
     have ep:=fPu [46,47,48,49,50,51,52,53,54,55,56,57,58,59,60,61,62,63,64,65,66,67,68,69,70,71] hs' hd' (fun s h=>hkp' s (fun i hi e=>h (by
      rcases (show i=0∨i=1∨i=2∨i=3∨i=4∨i=5∨i=6∨i=7∨i=8∨i=9∨i=10∨i=11∨i=12∨i=13∨i=14∨i=15∨i=16∨i=17∨i=18∨i=19∨i=20∨i=21∨i=22∨i=23∨i=24∨i=25∨i=26∨i=27 by omega) with rfl|rfl|rfl|rfl|rfl|rfl|rfl|rfl|rfl|rfl|rfl|rfl|rfl|rfl|rfl|rfl|rfl|rfl|rfl|rfl|rfl|rfl|rfl|rfl|rfl|rfl|rfl|rfl<;>first|(simp only[nt10D,Option.some.injEq] at e;subst e;simp)|(simp only[nt10D] at e;cases e))))
     simp only[List.foldl] at ep
     clear hs' hd' hkp'
     generalize af.tmps.getD 46 undef=gf46,af.tmps.getD 47 undef=gf47,af.tmps.getD 48 undef=gf48,af.tmps.getD 49 undef=gf49,af.tmps.getD 50 undef=gf50,af.tmps.getD 51 undef=gf51,af.tmps.getD 52 undef=gf52,af.tmps.getD 53 undef=gf53,af.tmps.getD 54 undef=gf54,af.tmps.getD 55 undef=gf55,af.tmps.getD 56 undef=gf56,af.tmps.getD 57 undef=gf57,af.tmps.getD 58 undef=gf58,af.tmps.getD 59 undef=gf59,af.tmps.getD 60 undef=gf60,af.tmps.getD 61 undef=gf61,af.tmps.getD 62 undef=gf62,af.tmps.getD 63 undef=gf63,af.tmps.getD 64 undef=gf64,af.tmps.getD 65 undef=gf65,af.tmps.getD 66 undef=gf66,af.tmps.getD 67 undef=gf67,af.tmps.getD 68 undef=gf68,af.tmps.getD 69 undef=gf69,af.tmps.getD 70 undef=gf70,af.tmps.getD 71 undef=gf71 at ep
     simp only[Act.put,List.setIfInBounds_toArray,List.set_cons_succ,List.set_cons_zero] at ep
     subst ep
     obtain⟨hbr,tY,qr',hg,hab'⟩:=H9.out
     have tY':=tY
     rw[eL9.out] at tY'
     obtain⟨Y2,t2'⟩:=tY'.relaid qg hlt hbr.size HSH.out.2 on g1 g3 q1 q3 hrow
     have FIN:Hid (Below W4.heap.size W4 Wf∧Blk 30 Wf W5.heap.size #[.int .i64 R,.int .i64 S,.slice La.a La.n La.c]∧∃ Y,TA W4.heap.size Wf (.slice La.a La.n La.c) ad9.ln Y (nilF ad9.f (k+1))):=⟨Only.below hbr hg hbr.size on,qr'.only on hab',Y2,by rw[eL9.out];exact t2'⟩
     clear hbr tY tY' t2' qr' hg hab' hab on g1 g3 q1 q3 hrow qg qr r0 r1 r2 atc ln1 ln3 HH9
     go_wp2
     go_roundw
     case rel=>exact⟨k+1,by omega,by go_num,FIN.out⟩
     case measure=>simp[intOf];omega
    ·have ek:k=ad9.ln:=by omega
     have hlt':¬(k:Int)<(La.n:Int):=by omega
     obtain⟨hb4,qk4,qm4,m14⟩:=HK.out
     have nA:AdAt wr La Y (nilA ad9):=by
      rw[ek] at tY
      obtain⟨L2,e2,n2⟩:=TA.new (m:=nilA ad9) tY
      obtain rfl:La=L2:=SL.v_inj e2
      exact n2 _ (fun _ _ hp _=>hp)
     have qk:=qk4.kept hbr
     have qm:=qm4.kept hbr
     have m1:=m14.below hbr
     have hb:=bTn hb4 hbr
     have hE1:badE (Md.mk cd ch cl cv cu cx ct cn m R S (nilA ad9))=0:=nilA_bad HE.out
     have hE2:badE (Md.mk cd ch cl cv cu cx ct cn m 0 0 noA)=0:=bare_bad HE.out
     have KR1:=hdn (fun W (hW:Below wr.heap.size wr W)=>mrun_no (Md.mk cd ch cl cv cu cx ct cn m R S (nilA ad9)) t1.E t1.L t1.N t1.O t1.Y t1.U t1.D La Y hE1 W (m1.below hW) (nA.below hW) ta tn tc tz (HT.out.below (bTn hb hW)) HBB.out)
     have KR2:=hdn (fun W (hW:Below wr.heap.size wr W)=>mrun_no (Md.mk cd ch cl cv cu cx ct cn m 0 0 noA) t1.E t1.L t1.N t1.O t1.Y t1.U t1.D noS (fun _ _=>SL.nought) hE2 W (m1.below hW) (AdAt.none_ W _) ta tn tc tz (HT.out.below (bTn hb hW)) HBB.out)
     have HN1:Hid (rowF (Md.mk cd ch cl cv cu cx ct cn m R S (nilA ad9)) (tokF tz)=rowF (Md.mk cd ch cl cv cu cx ct cn m 0 0 noA) (tokF tz)):=rowF_bare (nilA_naught HE.out H0.out) _
     have HN2:Hid (outF (Md.mk cd ch cl cv cu cx ct cn m R S (nilA ad9)) (tokF tz)=outF (Md.mk cd ch cl cv cu cx ct cn m 0 0 noA) (tokF tz)):=outF_bare (nilA_naught HE.out H0.out) _
     obtain⟨d0,d1,d2⟩:=qr.c3
     obtain⟨k0,k1,k2,k3,k4,k5,k6,k7,k8,k9,k10⟩:=qk.c11
     obtain⟨b0,b1,b2,b3,b4,b5,b6,b7,b8,b9,b10,b11⟩:=qm.c12
     clear r0 r1 r2 qk4 qm4 m14 hb4 hE1 hE2 m1 nA tY qr hbr tA0 qa b46 ek hmn hlt hk hln
     go_wp2_with (first
      | (go_at_call_of 21 R;refine (KR1.out _ (Below.refl _ _)).mono ?_;rintro e W7 ⟨rfl,h7⟩;clear KR1 k0 k1 k2 k3 k4 k5 k6 k7 k8 k9 k10 b0 b1 b2 b3 b4 b5 b6 b7 b8 b9 b10 b11 d0 d1 d2;replace qk:=qk.kept h7;replace qm:=qm.kept h7;obtain⟨k0,k1,k2,k3,k4,k5,k6,k7,k8,k9,k10⟩:=qk.c11;obtain⟨b0,b1,b2,b3,b4,b5,b6,b7,b8,b9,b10,b11⟩:=qm.c12)
      | (go_at_call 21;refine (KR2.out _ h7).mono ?_;rintro e W8 ⟨rfl,h8⟩;replace hb:=bTn (bTn hb h7) h8;clear KR2 h7 h8 k0 k1 k2 k3 k4 k5 k6 k7 k8 k9 k10 b0 b1 b2 b3 b4 b5 b6 b7 b8 b9 b10 b11)
      | (go_at_call 25;refine (samerows_call none 0 0 (fun _=>none) (fun _=>0) none 0 (fun _=>none) (fun _=>0) (fun _=>[]) _ (Grid.none_ _ _ _ _ _) (Grid.none_ _ _ _ _ _)).mono ?_;rintro e W10 ⟨rfl,h10⟩;replace hb:=bTn hb h10;clear h10))
     go_ret
     exact⟨rfl,hb⟩
  | true =>
   have HBB:=hdn hB
   clear hB
   go_enter Tryz.func7,Tryz.ntmps7
   go_wp2_with (first
    | (go_at_call 26;refine (k26 _).mono ?_;rintro e W1 ⟨rfl,h1⟩;replace hb:=bTn hb h1;replace qk:=qk.kept h1;clear h1 k26 k0 k1 k2 k3 k4 k5 k6 k7 k8 k9 k10;obtain⟨k0,k1,k2,k3,k4,k5,k6,k7,k8,k9,k10⟩:=qk.c11)
    | (go_at_call 19;refine (k19 _).mono ?_;rintro e W2 ⟨t1,rfl,hN,h2⟩;replace hb:=bTn hb h2;replace qk:=qk.kept h2;obtain⟨W3,eW3⟩:∃ W,W2.alloc (.cells #[.int .i64 cd,.int .i64 ch,.int .i64 cl,.int .i64 cv,.int .i64 cu,.int .i64 cx,.int .i64 ct,.int .i64 cn,.slice t1.E.a t1.E.n t1.E.c,.slice t1.L.a t1.L.n t1.L.c,.slice t1.N.a t1.N.n t1.N.c,.slice t1.O.a t1.O.n t1.O.c] 27)=W:=⟨_,rfl⟩;have n3:Below W2.heap.size W2 W3:=eW3 ▸ bNw (Below.refl _ _) _;have qm:Blk 27 W3 W2.heap.size #[.int .i64 cd,.int .i64 ch,.int .i64 cl,.int .i64 cv,.int .i64 cu,.int .i64 cx,.int .i64 ct,.int .i64 cn,.slice t1.E.a t1.E.n t1.E.c,.slice t1.L.a t1.L.n t1.L.c,.slice t1.N.a t1.N.n t1.N.c,.slice t1.O.a t1.O.n t1.O.c]:=eW3 ▸ Blk.new 27 W2 _;have m1:=(hN.below n3) _ (fun _ _ hp _=>hp);replace hb:=bTn hb n3;replace qk:=qk.kept n3;clear h2 hN n3 k19 k0 k1 k2 k3 k4 k5 k6 k7 k8 k9 k10;obtain⟨k0,k1,k2,k3,k4,k5,k6,k7,k8,k9,k10⟩:=qk.c11)
    | (go_at_call 20;refine (K20.out _).mono ?_;rintro e W4 ⟨t2,rfl,hNA,h4⟩;have ad1:=hNA _ (fun _ _ hp _=>hp);replace hb:=bTn hb h4;replace qk:=qk.kept h4;replace qm:=qm.kept h4;replace m1:=m1.below h4;have HK:=hdn (And.intro hb (And.intro qk (And.intro qm m1)));clear h4 hNA K20 hb qk qm m1 k0 k1 k2 k3 k4 k5 k6 k7 k8 k9 k10)
    | (go_at_call 10;refine (grown_typed R S t2.1.a t2.1.n t2.1.c t2.1 t2.2 ad9 _ ad1 HFA.out rfl ad1.len.symm).mono ?_;rintro e W5 ⟨La,Ya,rfl,tA,h5⟩;obtain⟨W6,eW6⟩:∃ W,W5.alloc (.cells #[.int .i64 R,.int .i64 S,.slice La.a La.n La.c] 30)=W:=⟨_,rfl⟩;have n6:Below W5.heap.size W5 W6:=eW6 ▸ bNw (Below.refl _ _) _;have qa:Blk 30 W6 W5.heap.size #[.int .i64 R,.int .i64 S,.slice La.a La.n La.c]:=eW6 ▸ Blk.new 30 W5 _;replace tA:=tA.below n6;have b46:=bTn h5 n6;clear h5 n6 ad1))
   have hmn:La.n=ad9.ln:=tA.len
   have tA0:TA W4.heap.size W6 (.slice La.a La.n La.c) ad9.ln Ya (nilF ad9.f 0):=by rw[nilF_zero];exact tA
   clear tA
   have hln:ad9.ln≤2:=HSH.out.1
   go_wp2
   go_loopw [6] (fun i wr=>∃ k:Nat,k≤ad9.ln∧i=.int .i64 k∧Below W4.heap.size W4 wr∧Blk 30 wr W5.heap.size #[.int .i64 R,.int .i64 S,.slice La.a La.n La.c]∧∃ Y,TA W4.heap.size wr (.slice La.a La.n La.c) ad9.ln Y (nilF ad9.f k)) (fun i _=>ad9.ln-(intOf i).toNat)
   case atStart=>exact⟨0,Nat.zero_le _,rfl,b46,qa,Ya,tA0⟩
   case round =>
    obtain⟨k,hk,rfl,hbr,qr,Y,tY⟩:=hrel
    obtain⟨r0,r1,r2⟩:=qr.c3
    by_cases hlt:k<ad9.ln
    ·have hlt':(k:Int)<(La.n:Int):=by omega
     rcases tY.own.2 with⟨e,e0⟩|⟨g,cap,cur,e,hg,hh,hcap,hm,hc1,hc2⟩
     ·omega
     have eLa:La=⟨some ⟨g,0,none⟩,ad9.ln,cap⟩:=SL.v_inj e
     have qg:Blk 61 wr g cur:=hh
     have atc:∀ j,j<4→cur[k*4+j]? = some (Y k j).v:=fun j hj=>by
      have:=cells4_at Y ad9.ln k j hlt hj
      rw[←hc2,List.getElem?_take_of_lt (by omega),Array.getElem?_toList] at this
      exact this
     have ln1:(Y k 1).n≤100000:=by
      have:=(tY.lay k hlt 1 (by omega)).is.reads.len
      rw[nilF_length] at this
      have:=HSH.out.2 k 1
      omega
     have ln3:(Y k 3).n≤100000:=by
      have:=(tY.lay k hlt 3 (by omega)).is.reads.len
      rw[nilF_length] at this
      have:=HSH.out.2 k 3
      omega
     have hab:W5.heap.size≠g:=qr.apart qg (by decide)
     have H9:=hdn (And.intro hbr (And.intro tY (And.intro qr (And.intro hg hab))))
     have eL9:=hdn eLa
     have HH9:=hdn (And.intro qg (And.intro qr (And.intro hab atc)))
     clear tY hc1 hc2 hm hcap hbr e hg hh eLa qg qr hab atc
     go_wp2
     obtain⟨qg,qr,hab,atc⟩:=HH9.out
     refine nt10_region W5.heap.size g ad9.ln cap k (Y k 1) (Y k 3) cur (fun w' on=>by have:=(qr.only on hab).cell 2 rfl;rw[eL9.out] at this;exact this) qg hlt (by omega) (atc 1 (by omega)) (atc 3 (by omega)) ln1 ln3 (by kernel_rfl) rfl ⟨_,rfl,rfl,rfl,rfl,by kernel_rfl⟩ ⟨_,rfl,rfl,rfl,rfl,by kernel_rfl⟩ ⟨_,rfl,rfl,rfl,rfl,by kernel_rfl⟩ ⟨_,rfl,rfl,rfl,rfl,by kernel_rfl⟩ ⟨_,rfl,rfl,rfl,rfl,by kernel_rfl⟩ ⟨_,rfl,rfl,rfl,rfl,by kernel_rfl⟩ ⟨_,rfl,rfl,rfl,rfl,by kernel_rfl⟩ ⟨_,rfl,rfl,rfl,rfl,by kernel_rfl⟩ ⟨_,rfl,rfl,rfl,rfl,by kernel_rfl⟩ ⟨_,rfl,rfl,rfl,rfl,by kernel_rfl⟩ ⟨_,rfl,rfl,rfl,rfl,by kernel_rfl⟩ ⟨_,rfl,rfl,rfl,rfl,by kernel_rfl⟩ ⟨_,rfl,rfl,rfl,rfl,by kernel_rfl⟩ ⟨_,rfl,rfl,rfl,rfl,by kernel_rfl⟩ ⟨_,rfl,rfl,rfl,rfl,by kernel_rfl⟩ ⟨_,rfl,rfl,rfl,rfl,by kernel_rfl⟩ ⟨_,rfl,rfl,rfl,rfl,by kernel_rfl⟩ ⟨_,rfl,rfl,rfl,rfl,by kernel_rfl⟩ ⟨_,rfl,rfl,rfl,rfl,by kernel_rfl⟩ ⟨_,rfl,rfl,rfl,rfl,by kernel_rfl⟩ ⟨_,rfl,rfl,rfl,rfl,by kernel_rfl⟩ ⟨_,rfl,rfl,rfl,rfl,by kernel_rfl⟩ ⟨_,rfl,rfl,rfl,rfl,by kernel_rfl⟩ ⟨_,rfl,rfl,rfl,rfl,by kernel_rfl⟩ ⟨_,rfl,rfl,rfl,rfl,by kernel_rfl⟩ ⟨_,rfl,rfl,rfl,rfl,by kernel_rfl⟩ ⟨_,rfl,rfl,rfl,rfl,by kernel_rfl⟩ ⟨_,rfl,rfl,rfl,rfl,by kernel_rfl⟩ rfl rfl (Nat.le_of_ble_eq_true rfl) ?_
     intro af Wf b1 b3 hs' hd' hkp' on g1 g3 q1 q3 hrow
     have ep:=fPu [46,47,48,49,50,51,52,53,54,55,56,57,58,59,60,61,62,63,64,65,66,67,68,69,70,71] hs' hd' (fun s h=>hkp' s (fun i hi e=>h (by
      rcases (show i=0∨i=1∨i=2∨i=3∨i=4∨i=5∨i=6∨i=7∨i=8∨i=9∨i=10∨i=11∨i=12∨i=13∨i=14∨i=15∨i=16∨i=17∨i=18∨i=19∨i=20∨i=21∨i=22∨i=23∨i=24∨i=25∨i=26∨i=27 by omega) with rfl|rfl|rfl|rfl|rfl|rfl|rfl|rfl|rfl|rfl|rfl|rfl|rfl|rfl|rfl|rfl|rfl|rfl|rfl|rfl|rfl|rfl|rfl|rfl|rfl|rfl|rfl|rfl<;>first|(simp only[nt10D,Option.some.injEq] at e;subst e;simp)|(simp only[nt10D] at e;cases e))))
     simp only[List.foldl] at ep
     clear hs' hd' hkp'
     generalize af.tmps.getD 46 undef=gf46,af.tmps.getD 47 undef=gf47,af.tmps.getD 48 undef=gf48,af.tmps.getD 49 undef=gf49,af.tmps.getD 50 undef=gf50,af.tmps.getD 51 undef=gf51,af.tmps.getD 52 undef=gf52,af.tmps.getD 53 undef=gf53,af.tmps.getD 54 undef=gf54,af.tmps.getD 55 undef=gf55,af.tmps.getD 56 undef=gf56,af.tmps.getD 57 undef=gf57,af.tmps.getD 58 undef=gf58,af.tmps.getD 59 undef=gf59,af.tmps.getD 60 undef=gf60,af.tmps.getD 61 undef=gf61,af.tmps.getD 62 undef=gf62,af.tmps.getD 63 undef=gf63,af.tmps.getD 64 undef=gf64,af.tmps.getD 65 undef=gf65,af.tmps.getD 66 undef=gf66,af.tmps.getD 67 undef=gf67,af.tmps.getD 68 undef=gf68,af.tmps.getD 69 undef=gf69,af.tmps.getD 70 undef=gf70,af.tmps.getD 71 undef=gf71 at ep
     simp only[Act.put,List.setIfInBounds_toArray,List.set_cons_succ,List.set_cons_zero] at ep
     subst ep
     obtain⟨hbr,tY,qr',hg,hab'⟩:=H9.out
     have tY':=tY
     rw[eL9.out] at tY'
     obtain⟨Y2,t2'⟩:=tY'.relaid qg hlt hbr.size HSH.out.2 on g1 g3 q1 q3 hrow
     have FIN:Hid (Below W4.heap.size W4 Wf∧Blk 30 Wf W5.heap.size #[.int .i64 R,.int .i64 S,.slice La.a La.n La.c]∧∃ Y,TA W4.heap.size Wf (.slice La.a La.n La.c) ad9.ln Y (nilF ad9.f (k+1))):=⟨Only.below hbr hg hbr.size on,qr'.only on hab',Y2,by rw[eL9.out];exact t2'⟩
     clear hbr tY tY' t2' qr' hg hab' hab on g1 g3 q1 q3 hrow qg qr r0 r1 r2 atc ln1 ln3 HH9
     go_wp2
     go_roundw
     case rel=>exact⟨k+1,by omega,by go_num,FIN.out⟩
     case measure=>simp[intOf];omega
    ·have ek:k=ad9.ln:=by omega
     have hlt':¬(k:Int)<(La.n:Int):=by omega
     obtain⟨hb4,qk4,qm4,m14⟩:=HK.out
     have nA:AdAt wr La Y (nilA ad9):=by
      rw[ek] at tY
      obtain⟨L2,e2,n2⟩:=TA.new (m:=nilA ad9) tY
      obtain rfl:La=L2:=SL.v_inj e2
      exact n2 _ (fun _ _ hp _=>hp)
     have qk:=qk4.kept hbr
     have qm:=qm4.kept hbr
     have m1:=m14.below hbr
     have hb:=bTn hb4 hbr
     have hE1:badE (Md.mk cd ch cl cv cu cx ct cn m R S (nilA ad9))=0:=nilA_bad HE.out
     have hE2:badE (Md.mk cd ch cl cv cu cx ct cn m 0 0 noA)=0:=bare_bad HE.out
     have KR1:=hdn (fun W (hW:Below wr.heap.size wr W)=>mrun_yes (Md.mk cd ch cl cv cu cx ct cn m R S (nilA ad9)) t1.E t1.L t1.N t1.O t1.Y t1.U t1.D La Y hE1 W (m1.below hW) (nA.below hW) ta tn tc tz (HT.out.below (bTn hb hW)) HBB.out)
     have KR2:=hdn (fun W (hW:Below wr.heap.size wr W)=>mrun_yes (Md.mk cd ch cl cv cu cx ct cn m 0 0 noA) t1.E t1.L t1.N t1.O t1.Y t1.U t1.D noS (fun _ _=>SL.nought) hE2 W (m1.below hW) (AdAt.none_ W _) ta tn tc tz (HT.out.below (bTn hb hW)) HBB.out)
     have HN1:Hid (rowF (Md.mk cd ch cl cv cu cx ct cn m R S (nilA ad9)) (tokF tz)=rowF (Md.mk cd ch cl cv cu cx ct cn m 0 0 noA) (tokF tz)):=rowF_bare (nilA_naught HE.out H0.out) _
     have HN2:Hid (outF (Md.mk cd ch cl cv cu cx ct cn m R S (nilA ad9)) (tokF tz)=outF (Md.mk cd ch cl cv cu cx ct cn m 0 0 noA) (tokF tz)):=outF_bare (nilA_naught HE.out H0.out) _
     obtain⟨d0,d1,d2⟩:=qr.c3
     obtain⟨k0,k1,k2,k3,k4,k5,k6,k7,k8,k9,k10⟩:=qk.c11
     obtain⟨b0,b1,b2,b3,b4,b5,b6,b7,b8,b9,b10,b11⟩:=qm.c12
     clear r0 r1 r2 qk4 qm4 m14 hb4 hE1 hE2 m1 nA tY qr hbr tA0 qa b46 ek hmn hlt hk hln
     go_wp2_with (first
      | (go_at_call_of 21 R;refine (KR1.out _ (Below.refl _ _)).mono ?_;rintro e W7 ⟨⟨u,uk,u2,uk2,A,A2,C,C2,rfl,g1,g2,-⟩,h7⟩;clear KR1 k0 k1 k2 k3 k4 k5 k6 k7 k8 k9 k10 b0 b1 b2 b3 b4 b5 b6 b7 b8 b9 b10 b11 d0 d1 d2;replace qk:=qk.kept h7;replace qm:=qm.kept h7;obtain⟨k0,k1,k2,k3,k4,k5,k6,k7,k8,k9,k10⟩:=qk.c11;obtain⟨b0,b1,b2,b3,b4,b5,b6,b7,b8,b9,b10,b11⟩:=qm.c12)
      | (go_at_call 21;refine (KR2.out _ h7).mono ?_;rintro e W8 ⟨⟨s1,sk,s2,sk2,A3,A4,C3,C4,rfl,g3,g4,-⟩,h8⟩;replace hb:=bTn (bTn hb h7) h8;replace g1:=g1.below h8;replace g2:=g2.below h8;clear KR2 h7 h8 k0 k1 k2 k3 k4 k5 k6 k7 k8 k9 k10 b0 b1 b2 b3 b4 b5 b6 b7 b8 b9 b10 b11)
      | (go_at_call_of 25 uk;refine (samerows_call u tn uk A C s1 sk A3 C3 _ _ g1 (by rw[HN1.out];exact g3)).mono ?_;rintro e W10 ⟨rfl,h10⟩;replace hb:=bTn hb h10;replace g2:=g2.below h10;replace g4:=g4.below h10;clear h10)
      | (go_at_call_of 25 uk2;refine (samerows_call u2 tn uk2 A2 C2 s2 sk2 A4 C4 _ _ g2 (by rw[HN2.out];exact g4)).mono ?_;rintro e W11 ⟨rfl,h11⟩;replace hb:=bTn hb h11;clear h11))
     go_ret
     exact⟨rfl,hb⟩
end
end Go.Proofs.YthliomlmhfjhnaaGreat

/- Texts put together. -/
import Derived.Test.YthliomlmhfjhnaaGreatRows
import Derived.Test.YthliomlmhfjhnaaGreatZf49
import Derived.Test.YthliomlmhfjhnaaGreatZf45
import Derived.Test.YthliomlmhfjhnaaGreatZf52
namespace Go.Proofs.YthliomlmhfjhnaaGreat
set_option maxRecDepth 20000
set_option maxHeartbeats 16000000
open Go.ChangeShapes Go.WideShapes Go.ChangeAt Go.RowKit
set_option linter.unusedVariables false
set_option linter.unusedSimpArgs false
section
theorem window_walk (cd ch cl cv cu cx ct cn s r:Int)(ta:Option Addr)(tn tc:Nat)(tz:List Int)(oa:Option Addr)(on oc:Nat)(oz:List Int)(w:World)(hs:(Lit.int .u64 s).wf=true)(ht:Reads .i64 w ta tn tz)(hte:ta=none→tc=0)(htl:tn≤tc)(ho:Reads .i64 w oa on oz)(hoe:oa=none→oc=0)(hol:on≤oc) :
  Calls Tryz.prog 6 #[.agg #[.int .i64 cd,.int .i64 ch,.int .i64 cl,.int .i64 cv,.int .i64 cu,.int .i64 cx,.int .i64 ct,.int .i64 cn,.int .u64 s,.int .i64 r,.slice ta tn tc],.slice oa on oc] w fun e w'=>e=.returned (.bool true)∧Below w.heap.size w w':=by
 have hom:=ho.max
 have HO:=hdn ho
 clear ho
 have hb:=bNw (Below.refl w.heap.size w) (.cells #[.int .i64 cd,.int .i64 ch,.int .i64 cl,.int .i64 cv,.int .i64 cu,.int .i64 cx,.int .i64 ct,.int .i64 cn,.int .u64 s,.int .i64 r,.slice ta tn tc] 47)
 have qk:=Blk.new 47 w #[.int .i64 cd,.int .i64 ch,.int .i64 cl,.int .i64 cv,.int .i64 cu,.int .i64 cx,.int .i64 ct,.int .i64 cn,.int .u64 s,.int .i64 r,.slice ta tn tc]
 have k26:=works_call
 have htm:=ht.max
 have HT:=hdn ht
 clear ht
 obtain⟨k0,k1,k2,k3,k4,k5,k6,k7,k8,k9,k10⟩:=qk.c11
 cases ok:okB cd ch cl cv cu cx ct cn with
 | false =>
  have k19:=fun W=>model_no cd ch cl cv cu cx ct cn s ok W
  go_enter Tryz.func6,Tryz.ntmps6
  go_wp2_with (first
   | (go_at_call 26;refine (k26 _).mono ?_;rintro e W1 ⟨rfl,h1⟩;replace hb:=bTn hb h1;replace qk:=qk.kept h1;clear h1 k26 k0 k1 k2 k3 k4 k5 k6 k7 k8 k9 k10;obtain⟨k0,k1,k2,k3,k4,k5,k6,k7,k8,k9,k10⟩:=qk.c11)
   | (go_at_call 19;refine (k19 _).mono ?_;rintro e W2 ⟨t1,rfl,hN,h2⟩;replace hb:=bTn hb h2;replace qk:=qk.kept h2;obtain⟨W3,eW3⟩:∃ W,W2.alloc (.cells #[.int .i64 0,.int .i64 0,.int .i64 0,.int .i64 0,.int .i64 0,.int .i64 0,.int .i64 0,.int .i64 0,.slice t1.E.a t1.E.n t1.E.c,.slice t1.L.a t1.L.n t1.L.c,.slice t1.N.a t1.N.n t1.N.c,.slice t1.O.a t1.O.n t1.O.c] 27)=W:=⟨_,rfl⟩;have n3:Below W2.heap.size W2 W3:=eW3 ▸ bNw (Below.refl _ _) _;have qm:Blk 27 W3 W2.heap.size #[.int .i64 0,.int .i64 0,.int .i64 0,.int .i64 0,.int .i64 0,.int .i64 0,.int .i64 0,.int .i64 0,.slice t1.E.a t1.E.n t1.E.c,.slice t1.L.a t1.L.n t1.L.c,.slice t1.N.a t1.N.n t1.N.c,.slice t1.O.a t1.O.n t1.O.c]:=eW3 ▸ Blk.new 27 W2 _;have m1:=(hN.below n3) _ (fun _ _ hp _=>hp);replace hb:=bTn hb n3;replace qk:=qk.kept n3;clear h2 hN n3 k19 k0 k1 k2 k3 k4 k5 k6 k7 k8 k9 k10;obtain⟨k0,k1,k2,k3,k4,k5,k6,k7,k8,k9,k10⟩:=qk.c11))
  go_ret
  exact⟨rfl,hb⟩
 | true =>
  have rt:=right_of ok
  have c0:0≤cn∧cn≤16:=by
   have ok2:=ok
   unfold okB at ok2
   simp only[Bool.and_eq_true,decide_eq_true_eq] at ok2
   omega
  have l0:=rt.l0
  have l1:=rt.l1
  have HR:=hdn (And.intro c0 (And.intro l0 l1))
  clear rt
  obtain⟨m,em⟩:∃ m,shapeV cd cl cv cu cx (wtL s (szZ cd cl cv cu cx).toNat)=m:=⟨_,rfl⟩
  obtain⟨R,eR⟩:∃ R,adR r=R:=⟨_,rfl⟩
  obtain⟨S,eS⟩:∃ S,adS r s=S:=⟨_,rfl⟩
  obtain⟨ad9,ea⟩:∃ a,adV r cd cl s=a:=⟨_,rfl⟩
  have hE:badE (Md.mk cd ch cl cv cu cx ct cn m R S ad9)=0:=by
   have h9:=made_bad ok s r
   unfold made at h9
   rw[em,eR,eS,ea] at h9
   exact h9
  have k19:=fun W=>model_yes cd ch cl cv cu cx ct cn s ok W
  have k20:=fun W=>adapt_call r cd ch cl cv cu cx ct cn s ok hs W
  simp only[em] at k19
  simp only[eR,eS,ea] at k20
  have K20:=hdn k20
  have HE:=hdn hE
  clear em eR eS ea k20 hE
  by_cases h0:cn=0
  ·have h0':(cn==0)=true:=by simp[h0]
   clear h0
   go_enter Tryz.func6,Tryz.ntmps6
   go_wp2_with (first
    | (go_at_call 26;refine (k26 _).mono ?_;rintro e W1 ⟨rfl,h1⟩;replace hb:=bTn hb h1;replace qk:=qk.kept h1;clear h1 k26 k0 k1 k2 k3 k4 k5 k6 k7 k8 k9 k10;obtain⟨k0,k1,k2,k3,k4,k5,k6,k7,k8,k9,k10⟩:=qk.c11)
    | (go_at_call 19;refine (k19 _).mono ?_;rintro e W2 ⟨t1,rfl,hN,h2⟩;replace hb:=bTn hb h2;replace qk:=qk.kept h2;obtain⟨W3,eW3⟩:∃ W,W2.alloc (.cells #[.int .i64 cd,.int .i64 ch,.int .i64 cl,.int .i64 cv,.int .i64 cu,.int .i64 cx,.int .i64 ct,.int .i64 cn,.slice t1.E.a t1.E.n t1.E.c,.slice t1.L.a t1.L.n t1.L.c,.slice t1.N.a t1.N.n t1.N.c,.slice t1.O.a t1.O.n t1.O.c] 27)=W:=⟨_,rfl⟩;have n3:Below W2.heap.size W2 W3:=eW3 ▸ bNw (Below.refl _ _) _;have qm:Blk 27 W3 W2.heap.size #[.int .i64 cd,.int .i64 ch,.int .i64 cl,.int .i64 cv,.int .i64 cu,.int .i64 cx,.int .i64 ct,.int .i64 cn,.slice t1.E.a t1.E.n t1.E.c,.slice t1.L.a t1.L.n t1.L.c,.slice t1.N.a t1.N.n t1.N.c,.slice t1.O.a t1.O.n t1.O.c]:=eW3 ▸ Blk.new 27 W2 _;have m1:=(hN.below n3) _ (fun _ _ hp _=>hp);replace hb:=bTn hb n3;replace qk:=qk.kept n3;clear h2 hN n3 k19 k0 k1 k2 k3 k4 k5 k6 k7 k8 k9 k10;obtain⟨k0,k1,k2,k3,k4,k5,k6,k7,k8,k9,k10⟩:=qk.c11))
   go_ret
   exact⟨rfl,hb⟩
  have h0':(cn==0)=false:=by simp[h0]
  by_cases hl:24<tn
  ·have hl':(24:Int)<(tn:Int):=by omega
   clear h0
   go_enter Tryz.func6,Tryz.ntmps6
   go_wp2_with (first
    | (go_at_call 26;refine (k26 _).mono ?_;rintro e W1 ⟨rfl,h1⟩;replace hb:=bTn hb h1;replace qk:=qk.kept h1;clear h1 k26 k0 k1 k2 k3 k4 k5 k6 k7 k8 k9 k10;obtain⟨k0,k1,k2,k3,k4,k5,k6,k7,k8,k9,k10⟩:=qk.c11)
    | (go_at_call 19;refine (k19 _).mono ?_;rintro e W2 ⟨t1,rfl,hN,h2⟩;replace hb:=bTn hb h2;replace qk:=qk.kept h2;obtain⟨W3,eW3⟩:∃ W,W2.alloc (.cells #[.int .i64 cd,.int .i64 ch,.int .i64 cl,.int .i64 cv,.int .i64 cu,.int .i64 cx,.int .i64 ct,.int .i64 cn,.slice t1.E.a t1.E.n t1.E.c,.slice t1.L.a t1.L.n t1.L.c,.slice t1.N.a t1.N.n t1.N.c,.slice t1.O.a t1.O.n t1.O.c] 27)=W:=⟨_,rfl⟩;have n3:Below W2.heap.size W2 W3:=eW3 ▸ bNw (Below.refl _ _) _;have qm:Blk 27 W3 W2.heap.size #[.int .i64 cd,.int .i64 ch,.int .i64 cl,.int .i64 cv,.int .i64 cu,.int .i64 cx,.int .i64 ct,.int .i64 cn,.slice t1.E.a t1.E.n t1.E.c,.slice t1.L.a t1.L.n t1.L.c,.slice t1.N.a t1.N.n t1.N.c,.slice t1.O.a t1.O.n t1.O.c]:=eW3 ▸ Blk.new 27 W2 _;have m1:=(hN.below n3) _ (fun _ _ hp _=>hp);replace hb:=bTn hb n3;replace qk:=qk.kept n3;clear h2 hN n3 k19 k0 k1 k2 k3 k4 k5 k6 k7 k8 k9 k10;obtain⟨k0,k1,k2,k3,k4,k5,k6,k7,k8,k9,k10⟩:=qk.c11))
   go_ret
   exact⟨rfl,hb⟩
  have hl':¬(24:Int)<(tn:Int):=by omega
  by_cases hm:24<on
  ·have hm':(24:Int)<(on:Int):=by omega
   clear h0
   go_enter Tryz.func6,Tryz.ntmps6
   go_wp2_with (first
    | (go_at_call 26;refine (k26 _).mono ?_;rintro e W1 ⟨rfl,h1⟩;replace hb:=bTn hb h1;replace qk:=qk.kept h1;clear h1 k26 k0 k1 k2 k3 k4 k5 k6 k7 k8 k9 k10;obtain⟨k0,k1,k2,k3,k4,k5,k6,k7,k8,k9,k10⟩:=qk.c11)
    | (go_at_call 19;refine (k19 _).mono ?_;rintro e W2 ⟨t1,rfl,hN,h2⟩;replace hb:=bTn hb h2;replace qk:=qk.kept h2;obtain⟨W3,eW3⟩:∃ W,W2.alloc (.cells #[.int .i64 cd,.int .i64 ch,.int .i64 cl,.int .i64 cv,.int .i64 cu,.int .i64 cx,.int .i64 ct,.int .i64 cn,.slice t1.E.a t1.E.n t1.E.c,.slice t1.L.a t1.L.n t1.L.c,.slice t1.N.a t1.N.n t1.N.c,.slice t1.O.a t1.O.n t1.O.c] 27)=W:=⟨_,rfl⟩;have n3:Below W2.heap.size W2 W3:=eW3 ▸ bNw (Below.refl _ _) _;have qm:Blk 27 W3 W2.heap.size #[.int .i64 cd,.int .i64 ch,.int .i64 cl,.int .i64 cv,.int .i64 cu,.int .i64 cx,.int .i64 ct,.int .i64 cn,.slice t1.E.a t1.E.n t1.E.c,.slice t1.L.a t1.L.n t1.L.c,.slice t1.N.a t1.N.n t1.N.c,.slice t1.O.a t1.O.n t1.O.c]:=eW3 ▸ Blk.new 27 W2 _;have m1:=(hN.below n3) _ (fun _ _ hp _=>hp);replace hb:=bTn hb n3;replace qk:=qk.kept n3;clear h2 hN n3 k19 k0 k1 k2 k3 k4 k5 k6 k7 k8 k9 k10;obtain⟨k0,k1,k2,k3,k4,k5,k6,k7,k8,k9,k10⟩:=qk.c11))
   go_ret
   exact⟨rfl,hb⟩
  have hm':¬(24:Int)<(on:Int):=by omega
  obtain⟨Q1,eQ1⟩:∃ Q1,cn-1=Q1:=⟨_,rfl⟩
  have bQ1:0≤Q1∧Q1≤15:=by omega
  have bm:=mul_bounds (show 0≤cl by omega) l1 bQ1.1 bQ1.2
  obtain⟨SN,eSN⟩:∃ SN:Nat,cl*Q1+1=(SN:Int):=⟨(cl*Q1+1).toNat,by omega⟩
  obtain⟨Q2,eQ2⟩:∃ Q2,cl*Q1=Q2:=⟨_,rfl⟩
  have w1:IntKind.i64.wrap (cn-1)=Q1:=by rw[IntKind.wrap_i64];omega
  have w2:IntKind.i64.wrap (cl*Q1)=Q2:=by rw[eQ2,IntKind.wrap_i64];omega
  have w3:IntKind.i64.wrap (Q2+1)=(SN:Int):=by rw[IntKind.wrap_i64];omega
  have hS1:1≤SN∧SN≤31:=by omega
  have HS:Hid (cl*(cn-1)+1=(SN:Int)):=by rw[eQ1];exact eSN
  clear eQ1 eQ2 eSN bm bQ1 h0
  by_cases h1:tn<SN
  ·have h1':(tn:Int)<(SN:Int):=by omega
   go_enter Tryz.func6,Tryz.ntmps6
   go_wp2_with (first
    | (go_at_call 26;refine (k26 _).mono ?_;rintro e W1 ⟨rfl,h1⟩;replace hb:=bTn hb h1;replace qk:=qk.kept h1;clear h1 k26 k0 k1 k2 k3 k4 k5 k6 k7 k8 k9 k10;obtain⟨k0,k1,k2,k3,k4,k5,k6,k7,k8,k9,k10⟩:=qk.c11)
    | (go_at_call 19;refine (k19 _).mono ?_;rintro e W2 ⟨t1,rfl,hN,h2⟩;replace hb:=bTn hb h2;replace qk:=qk.kept h2;obtain⟨W3,eW3⟩:∃ W,W2.alloc (.cells #[.int .i64 cd,.int .i64 ch,.int .i64 cl,.int .i64 cv,.int .i64 cu,.int .i64 cx,.int .i64 ct,.int .i64 cn,.slice t1.E.a t1.E.n t1.E.c,.slice t1.L.a t1.L.n t1.L.c,.slice t1.N.a t1.N.n t1.N.c,.slice t1.O.a t1.O.n t1.O.c] 27)=W:=⟨_,rfl⟩;have n3:Below W2.heap.size W2 W3:=eW3 ▸ bNw (Below.refl _ _) _;have qm:Blk 27 W3 W2.heap.size #[.int .i64 cd,.int .i64 ch,.int .i64 cl,.int .i64 cv,.int .i64 cu,.int .i64 cx,.int .i64 ct,.int .i64 cn,.slice t1.E.a t1.E.n t1.E.c,.slice t1.L.a t1.L.n t1.L.c,.slice t1.N.a t1.N.n t1.N.c,.slice t1.O.a t1.O.n t1.O.c]:=eW3 ▸ Blk.new 27 W2 _;have m1:=(hN.below n3) _ (fun _ _ hp _=>hp);replace hb:=bTn hb n3;replace qk:=qk.kept n3;clear h2 hN n3 k19 k0 k1 k2 k3 k4 k5 k6 k7 k8 k9 k10;obtain⟨k0,k1,k2,k3,k4,k5,k6,k7,k8,k9,k10⟩:=qk.c11))
   go_ret
   exact⟨rfl,hb⟩
  have h1':¬(tn:Int)<(SN:Int):=by omega
  obtain⟨NN,eNN⟩:∃ NN:Nat,tn-SN=NN:=⟨_,rfl⟩
  have w4:IntKind.i64.wrap ((tn:Int)-(SN:Int))=(NN:Int):=by rw[IntKind.wrap_i64];omega
  by_cases h2:on<NN
  ·have h2':(on:Int)<(NN:Int):=by omega
   clear eNN
   go_enter Tryz.func6,Tryz.ntmps6
   go_wp2_with (first
    | (go_at_call 26;refine (k26 _).mono ?_;rintro e W1 ⟨rfl,h1⟩;replace hb:=bTn hb h1;replace qk:=qk.kept h1;clear h1 k26 k0 k1 k2 k3 k4 k5 k6 k7 k8 k9 k10;obtain⟨k0,k1,k2,k3,k4,k5,k6,k7,k8,k9,k10⟩:=qk.c11)
    | (go_at_call 19;refine (k19 _).mono ?_;rintro e W2 ⟨t1,rfl,hN,h2⟩;replace hb:=bTn hb h2;replace qk:=qk.kept h2;obtain⟨W3,eW3⟩:∃ W,W2.alloc (.cells #[.int .i64 cd,.int .i64 ch,.int .i64 cl,.int .i64 cv,.int .i64 cu,.int .i64 cx,.int .i64 ct,.int .i64 cn,.slice t1.E.a t1.E.n t1.E.c,.slice t1.L.a t1.L.n t1.L.c,.slice t1.N.a t1.N.n t1.N.c,.slice t1.O.a t1.O.n t1.O.c] 27)=W:=⟨_,rfl⟩;have n3:Below W2.heap.size W2 W3:=eW3 ▸ bNw (Below.refl _ _) _;have qm:Blk 27 W3 W2.heap.size #[.int .i64 cd,.int .i64 ch,.int .i64 cl,.int .i64 cv,.int .i64 cu,.int .i64 cx,.int .i64 ct,.int .i64 cn,.slice t1.E.a t1.E.n t1.E.c,.slice t1.L.a t1.L.n t1.L.c,.slice t1.N.a t1.N.n t1.N.c,.slice t1.O.a t1.O.n t1.O.c]:=eW3 ▸ Blk.new 27 W2 _;have m1:=(hN.below n3) _ (fun _ _ hp _=>hp);replace hb:=bTn hb n3;replace qk:=qk.kept n3;clear h2 hN n3 k19 k0 k1 k2 k3 k4 k5 k6 k7 k8 k9 k10;obtain⟨k0,k1,k2,k3,k4,k5,k6,k7,k8,k9,k10⟩:=qk.c11))
   go_ret
   exact⟨rfl,hb⟩
  have h2':¬(on:Int)<(NN:Int):=by omega
  have hNo:NN≤on:=by omega
  have hNt:NN≤tn:=by omega
  have hN1:NN<tn:=by omega
  have HSN:Hid (tn=NN+SN):=by show tn=NN+SN;omega
  obtain⟨tx,rfl⟩:=HT.out.some_ (by omega)
  have HJ:=hdn (join_length (NN:=NN) HO.out.len HT.out.len hNo hNt)
  clear eNN hte
  cases hB:runB (Md.mk cd ch cl cv cu cx ct cn m R S ad9) tz tn with
  | false =>
   have HBB:=hdn hB
   clear hB
   go_enter Tryz.func6,Tryz.ntmps6
   go_wp2_with (first
    | (go_at_call 26;refine (k26 _).mono ?_;rintro e W1 ⟨rfl,h1⟩;replace hb:=bTn hb h1;replace qk:=qk.kept h1;clear h1 k26 k0 k1 k2 k3 k4 k5 k6 k7 k8 k9 k10;obtain⟨k0,k1,k2,k3,k4,k5,k6,k7,k8,k9,k10⟩:=qk.c11)
    | (go_at_call 19;refine (k19 _).mono ?_;rintro e W2 ⟨t1,rfl,hN,h2⟩;replace hb:=bTn hb h2;replace qk:=qk.kept h2;obtain⟨W3,eW3⟩:∃ W,W2.alloc (.cells #[.int .i64 cd,.int .i64 ch,.int .i64 cl,.int .i64 cv,.int .i64 cu,.int .i64 cx,.int .i64 ct,.int .i64 cn,.slice t1.E.a t1.E.n t1.E.c,.slice t1.L.a t1.L.n t1.L.c,.slice t1.N.a t1.N.n t1.N.c,.slice t1.O.a t1.O.n t1.O.c] 27)=W:=⟨_,rfl⟩;have n3:Below W2.heap.size W2 W3:=eW3 ▸ bNw (Below.refl _ _) _;have qm:Blk 27 W3 W2.heap.size #[.int .i64 cd,.int .i64 ch,.int .i64 cl,.int .i64 cv,.int .i64 cu,.int .i64 cx,.int .i64 ct,.int .i64 cn,.slice t1.E.a t1.E.n t1.E.c,.slice t1.L.a t1.L.n t1.L.c,.slice t1.N.a t1.N.n t1.N.c,.slice t1.O.a t1.O.n t1.O.c]:=eW3 ▸ Blk.new 27 W2 _;have m1:=(hN.below n3) _ (fun _ _ hp _=>hp);replace hb:=bTn hb n3;replace qk:=qk.kept n3;clear h2 hN n3 k19 k0 k1 k2 k3 k4 k5 k6 k7 k8 k9 k10;obtain⟨k0,k1,k2,k3,k4,k5,k6,k7,k8,k9,k10⟩:=qk.c11)
    | (go_at_call 20;refine (K20.out _).mono ?_;rintro e W4 ⟨t2,rfl,hNA,h4⟩;replace hb:=bTn hb h4;replace qk:=qk.kept h4;replace qm:=qm.kept h4;replace m1:=m1.below h4;obtain⟨W5,eW5⟩:∃ W,W4.alloc (.cells #[.int .i64 R,.int .i64 S,.slice t2.1.a t2.1.n t2.1.c] 30)=W:=⟨_,rfl⟩;have n5:Below W4.heap.size W4 W5:=eW5 ▸ bNw (Below.refl _ _) _;have qa:Blk 30 W5 W4.heap.size #[.int .i64 R,.int .i64 S,.slice t2.1.a t2.1.n t2.1.c]:=eW5 ▸ Blk.new 30 W4 _;have a1:=(hNA.below n5) _ (fun _ _ hp _=>hp);replace hb:=bTn hb n5;replace qk:=qk.kept n5;replace qm:=qm.kept n5;replace m1:=m1.below n5;clear h4 hNA n5 k0 k1 k2 k3 k4 k5 k6 k7 k8 k9 k10;obtain⟨k0,k1,k2,k3,k4,k5,k6,k7,k8,k9,k10⟩:=qk.c11;obtain⟨b0,b1,b2,b3,b4,b5,b6,b7,b8,b9,b10,b11⟩:=qm.c12;obtain⟨d0,d1,d2⟩:=qa.c3)
    | (go_at_call 21;refine (mrun_no (Md.mk cd ch cl cv cu cx ct cn m R S ad9) t1.E t1.L t1.N t1.O t1.Y t1.U t1.D t2.1 t2.2 HE.out _ m1 a1 (some tx) tn tc tz (HT.out.below hb) HBB.out).mono ?_;rintro e W6 ⟨rfl,h6⟩;replace hb:=bTn hb h6;replace qk:=qk.kept h6;replace qm:=qm.kept h6;replace m1:=m1.below h6;replace qa:=qa.kept h6;replace a1:=a1.below h6;clear h6 k0 k1 k2 k3 k4 k5 k6 k7 k8 k9 k10 b0 b1 b2 b3 b4 b5 b6 b7 b8 b9 b10 b11 d0 d1 d2))
   have HB:=hdn hb
   cases hB2:runB (Md.mk cd ch cl cv cu cx ct cn m R S ad9) (oz.take NN++tz.drop NN) tn with
   | false =>
    have HB2:=hdn hB2
    clear hB2
    refine wi12_region (Md.mk cd ch cl cv cu cx ct cn m R S ad9) t1.E t1.L t1.N t1.O t2.1 w.heap.size W2.heap.size W4.heap.size NN on oc tn tc 0 oa (some tx) tx (oz.take NN) (tz.drop NN) 20 (fun _ _ _=>True) (fun _ _ _=>True) (fun h hb=>trivial) (fun h hb=>trivial) hNt (HJ.out.1) (HJ.out.2.1) (by omega) (by kernel_rfl) rfl ⟨_,rfl,rfl,rfl,rfl,by kernel_rfl⟩ ⟨_,rfl,rfl,rfl,rfl,by kernel_rfl⟩ ⟨_,rfl,rfl,rfl,rfl,by kernel_rfl⟩ ⟨_,rfl,rfl,rfl,rfl,by kernel_rfl⟩ ⟨_,rfl,rfl,rfl,rfl,by kernel_rfl⟩ ⟨_,rfl,rfl,rfl,rfl,by kernel_rfl⟩ ⟨_,rfl,rfl,rfl,rfl,by kernel_rfl⟩ ⟨_,rfl,rfl,rfl,rfl,by kernel_rfl⟩ ⟨_,rfl,rfl,rfl,rfl,by kernel_rfl⟩ ⟨_,rfl,rfl,rfl,rfl,by kernel_rfl⟩ ⟨_,rfl,rfl,rfl,rfl,by kernel_rfl⟩ ⟨_,rfl,rfl,rfl,rfl,by kernel_rfl⟩ ⟨_,rfl,rfl,rfl,rfl,by kernel_rfl⟩ ⟨_,rfl,rfl,rfl,rfl,by kernel_rfl⟩ ⟨_,rfl,rfl,rfl,rfl,by kernel_rfl⟩ ⟨_,rfl,rfl,rfl,rfl,by kernel_rfl⟩ ⟨_,rfl,rfl,rfl,rfl,by kernel_rfl⟩ ⟨_,rfl,rfl,rfl,rfl,by kernel_rfl⟩ ⟨_,rfl,rfl,rfl,rfl,by kernel_rfl⟩ ⟨_,rfl,rfl,rfl,rfl,by kernel_rfl⟩ (fun w hw=>rL7 (qm.kept hw)) (fun w hw=>rL3 (qa.kept hw)) (fun w=>run_cut45 hoe hol hNo w) (fun w hw=>run_k45 (qk.kept hw)) (fun w=>run_tail45 (by omega) htl rfl w) (fun w hw=>reads_take (HO.out.below (bTn HB.out hw)) hNo) hoe (fun w hw=>reads_drop (HT.out.below (bTn HB.out hw)) hNt) (join_wf HO.out HT.out) (fun w ya yc hw hr=>(mrun_no (Md.mk cd ch cl cv cu cx ct cn m R S ad9) t1.E t1.L t1.N t1.O t1.Y t1.U t1.D t2.1 t2.2 HE.out w (m1.below hw) (a1.below hw) ya tn yc (oz.take NN++tz.drop NN) hr HB2.out).mono fun e w' h=>by obtain⟨rfl,h4⟩:=h;exact⟨⟨none,0,none,0,rfl,trivial,trivial⟩,h4⟩) rfl rfl rfl rfl rfl (Nat.le_of_ble_eq_true rfl) ?_
    intro af Wf hs' hd' hkp' hbf fa fb e15
    obtain⟨va,vc,e13,fa⟩:=fa
    obtain⟨vb,vd,e14,fb⟩:=fb
    have ep:=fPu [91,92,93,94,95,96,97,98,99,100,101,102,103,90,104,105,106,13,14,15] hs' hd' (fun s h=>hkp' s (fun i hi e=>h (by
     rcases (show i=0∨i=1∨i=2∨i=3∨i=4∨i=5∨i=6∨i=7∨i=8∨i=9∨i=10∨i=11∨i=12∨i=13∨i=14∨i=15∨i=16∨i=17∨i=18∨i=19 by omega) with rfl|rfl|rfl|rfl|rfl|rfl|rfl|rfl|rfl|rfl|rfl|rfl|rfl|rfl|rfl|rfl|rfl|rfl|rfl|rfl<;>(simp only[wi12D,Option.some.injEq] at e;subst e;simp))))
    simp only[List.foldl] at ep
    rw[e13,e14,e15] at ep
    clear hs' hd' hkp' e13 e14 e15
    generalize af.tmps.getD 91 undef=gf91,af.tmps.getD 92 undef=gf92,af.tmps.getD 93 undef=gf93,af.tmps.getD 94 undef=gf94,af.tmps.getD 95 undef=gf95,af.tmps.getD 96 undef=gf96,af.tmps.getD 97 undef=gf97,af.tmps.getD 98 undef=gf98,af.tmps.getD 99 undef=gf99,af.tmps.getD 100 undef=gf100,af.tmps.getD 101 undef=gf101,af.tmps.getD 102 undef=gf102,af.tmps.getD 103 undef=gf103,af.tmps.getD 90 undef=gf90,af.tmps.getD 104 undef=gf104,af.tmps.getD 105 undef=gf105,af.tmps.getD 106 undef=gf106 at ep
    simp only[Act.put,List.setIfInBounds_toArray,List.set_cons_succ,List.set_cons_zero] at ep
    subst ep
    have hbE:=bTn HB.out hbf
    clear fa fb hbf w1 w2 w3 w4
    go_wp2
    go_ret
    exact⟨rfl,hbE⟩
   | true =>
    have HB2:=hdn hB2
    clear hB2
    refine wi12_region (Md.mk cd ch cl cv cu cx ct cn m R S ad9) t1.E t1.L t1.N t1.O t2.1 w.heap.size W2.heap.size W4.heap.size NN on oc tn tc tn oa (some tx) tx (oz.take NN) (tz.drop NN) 0 (fun W a _=>∃ A C,Grid W a tn A C (rowF (Md.mk cd ch cl cv cu cx ct cn m R S ad9) (tokF (oz.take NN++tz.drop NN)))) (fun W a _=>∃ A C,Grid W a tn A C (outF (Md.mk cd ch cl cv cu cx ct cn m R S ad9) (tokF (oz.take NN++tz.drop NN)))) (fun h hb=>h.elim fun A h=>h.elim fun C h=>⟨A,C,h.below hb⟩) (fun h hb=>h.elim fun A h=>h.elim fun C h=>⟨A,C,h.below hb⟩) hNt (HJ.out.1) (HJ.out.2.1) (by omega) (by kernel_rfl) rfl ⟨_,rfl,rfl,rfl,rfl,by kernel_rfl⟩ ⟨_,rfl,rfl,rfl,rfl,by kernel_rfl⟩ ⟨_,rfl,rfl,rfl,rfl,by kernel_rfl⟩ ⟨_,rfl,rfl,rfl,rfl,by kernel_rfl⟩ ⟨_,rfl,rfl,rfl,rfl,by kernel_rfl⟩ ⟨_,rfl,rfl,rfl,rfl,by kernel_rfl⟩ ⟨_,rfl,rfl,rfl,rfl,by kernel_rfl⟩ ⟨_,rfl,rfl,rfl,rfl,by kernel_rfl⟩ ⟨_,rfl,rfl,rfl,rfl,by kernel_rfl⟩ ⟨_,rfl,rfl,rfl,rfl,by kernel_rfl⟩ ⟨_,rfl,rfl,rfl,rfl,by kernel_rfl⟩ ⟨_,rfl,rfl,rfl,rfl,by kernel_rfl⟩ ⟨_,rfl,rfl,rfl,rfl,by kernel_rfl⟩ ⟨_,rfl,rfl,rfl,rfl,by kernel_rfl⟩ ⟨_,rfl,rfl,rfl,rfl,by kernel_rfl⟩ ⟨_,rfl,rfl,rfl,rfl,by kernel_rfl⟩ ⟨_,rfl,rfl,rfl,rfl,by kernel_rfl⟩ ⟨_,rfl,rfl,rfl,rfl,by kernel_rfl⟩ ⟨_,rfl,rfl,rfl,rfl,by kernel_rfl⟩ ⟨_,rfl,rfl,rfl,rfl,by kernel_rfl⟩ (fun w hw=>rL7 (qm.kept hw)) (fun w hw=>rL3 (qa.kept hw)) (fun w=>run_cut45 hoe hol hNo w) (fun w hw=>run_k45 (qk.kept hw)) (fun w=>run_tail45 (by omega) htl rfl w) (fun w hw=>reads_take (HO.out.below (bTn HB.out hw)) hNo) hoe (fun w hw=>reads_drop (HT.out.below (bTn HB.out hw)) hNt) (join_wf HO.out HT.out) (fun w ya yc hw hr=>(mrun_yes (Md.mk cd ch cl cv cu cx ct cn m R S ad9) t1.E t1.L t1.N t1.O t1.Y t1.U t1.D t2.1 t2.2 HE.out w (m1.below hw) (a1.below hw) ya tn yc (oz.take NN++tz.drop NN) hr HB2.out).mono fun e w' h=>by obtain⟨⟨u,k,u2,k2,A,A2,C,C2,rfl,h1,h2,-⟩,h4⟩:=h;exact⟨⟨u,k,u2,k2,rfl,⟨A,C,h1⟩,⟨A2,C2,h2⟩⟩,h4⟩) rfl rfl rfl rfl rfl (Nat.le_of_ble_eq_true rfl) ?_
    intro af Wf hs' hd' hkp' hbf fa fb e15
    obtain⟨va,vc,e13,fa⟩:=fa
    obtain⟨vb,vd,e14,fb⟩:=fb
    have ep:=fPu [91,92,93,94,95,96,97,98,99,100,101,102,103,90,104,105,106,13,14,15] hs' hd' (fun s h=>hkp' s (fun i hi e=>h (by
     rcases (show i=0∨i=1∨i=2∨i=3∨i=4∨i=5∨i=6∨i=7∨i=8∨i=9∨i=10∨i=11∨i=12∨i=13∨i=14∨i=15∨i=16∨i=17∨i=18∨i=19 by omega) with rfl|rfl|rfl|rfl|rfl|rfl|rfl|rfl|rfl|rfl|rfl|rfl|rfl|rfl|rfl|rfl|rfl|rfl|rfl|rfl<;>(simp only[wi12D,Option.some.injEq] at e;subst e;simp))))
    simp only[List.foldl] at ep
    rw[e13,e14,e15] at ep
    clear hs' hd' hkp' e13 e14 e15
    generalize af.tmps.getD 91 undef=gf91,af.tmps.getD 92 undef=gf92,af.tmps.getD 93 undef=gf93,af.tmps.getD 94 undef=gf94,af.tmps.getD 95 undef=gf95,af.tmps.getD 96 undef=gf96,af.tmps.getD 97 undef=gf97,af.tmps.getD 98 undef=gf98,af.tmps.getD 99 undef=gf99,af.tmps.getD 100 undef=gf100,af.tmps.getD 101 undef=gf101,af.tmps.getD 102 undef=gf102,af.tmps.getD 103 undef=gf103,af.tmps.getD 90 undef=gf90,af.tmps.getD 104 undef=gf104,af.tmps.getD 105 undef=gf105,af.tmps.getD 106 undef=gf106 at ep
    simp only[Act.put,List.setIfInBounds_toArray,List.set_cons_succ,List.set_cons_zero] at ep
    subst ep
    have hbE:=bTn HB.out hbf
    clear fa fb hbf w1 w2 w3 w4
    go_wp2
    go_ret
    exact⟨rfl,hbE⟩
  | true =>
   have HBB:=hdn hB
   clear hB
   go_enter Tryz.func6,Tryz.ntmps6
   go_wp2_with (first
    | (go_at_call 26;refine (k26 _).mono ?_;rintro e W1 ⟨rfl,h1⟩;replace hb:=bTn hb h1;replace qk:=qk.kept h1;clear h1 k26 k0 k1 k2 k3 k4 k5 k6 k7 k8 k9 k10;obtain⟨k0,k1,k2,k3,k4,k5,k6,k7,k8,k9,k10⟩:=qk.c11)
    | (go_at_call 19;refine (k19 _).mono ?_;rintro e W2 ⟨t1,rfl,hN,h2⟩;replace hb:=bTn hb h2;replace qk:=qk.kept h2;obtain⟨W3,eW3⟩:∃ W,W2.alloc (.cells #[.int .i64 cd,.int .i64 ch,.int .i64 cl,.int .i64 cv,.int .i64 cu,.int .i64 cx,.int .i64 ct,.int .i64 cn,.slice t1.E.a t1.E.n t1.E.c,.slice t1.L.a t1.L.n t1.L.c,.slice t1.N.a t1.N.n t1.N.c,.slice t1.O.a t1.O.n t1.O.c] 27)=W:=⟨_,rfl⟩;have n3:Below W2.heap.size W2 W3:=eW3 ▸ bNw (Below.refl _ _) _;have qm:Blk 27 W3 W2.heap.size #[.int .i64 cd,.int .i64 ch,.int .i64 cl,.int .i64 cv,.int .i64 cu,.int .i64 cx,.int .i64 ct,.int .i64 cn,.slice t1.E.a t1.E.n t1.E.c,.slice t1.L.a t1.L.n t1.L.c,.slice t1.N.a t1.N.n t1.N.c,.slice t1.O.a t1.O.n t1.O.c]:=eW3 ▸ Blk.new 27 W2 _;have m1:=(hN.below n3) _ (fun _ _ hp _=>hp);replace hb:=bTn hb n3;replace qk:=qk.kept n3;clear h2 hN n3 k19 k0 k1 k2 k3 k4 k5 k6 k7 k8 k9 k10;obtain⟨k0,k1,k2,k3,k4,k5,k6,k7,k8,k9,k10⟩:=qk.c11)
    | (go_at_call 20;refine (K20.out _).mono ?_;rintro e W4 ⟨t2,rfl,hNA,h4⟩;replace hb:=bTn hb h4;replace qk:=qk.kept h4;replace qm:=qm.kept h4;replace m1:=m1.below h4;obtain⟨W5,eW5⟩:∃ W,W4.alloc (.cells #[.int .i64 R,.int .i64 S,.slice t2.1.a t2.1.n t2.1.c] 30)=W:=⟨_,rfl⟩;have n5:Below W4.heap.size W4 W5:=eW5 ▸ bNw (Below.refl _ _) _;have qa:Blk 30 W5 W4.heap.size #[.int .i64 R,.int .i64 S,.slice t2.1.a t2.1.n t2.1.c]:=eW5 ▸ Blk.new 30 W4 _;have a1:=(hNA.below n5) _ (fun _ _ hp _=>hp);replace hb:=bTn hb n5;replace qk:=qk.kept n5;replace qm:=qm.kept n5;replace m1:=m1.below n5;clear h4 hNA n5 k0 k1 k2 k3 k4 k5 k6 k7 k8 k9 k10;obtain⟨k0,k1,k2,k3,k4,k5,k6,k7,k8,k9,k10⟩:=qk.c11;obtain⟨b0,b1,b2,b3,b4,b5,b6,b7,b8,b9,b10,b11⟩:=qm.c12;obtain⟨d0,d1,d2⟩:=qa.c3)
    | (go_at_call 21;refine (mrun_yes (Md.mk cd ch cl cv cu cx ct cn m R S ad9) t1.E t1.L t1.N t1.O t1.Y t1.U t1.D t2.1 t2.2 HE.out _ m1 a1 (some tx) tn tc tz (HT.out.below hb) HBB.out).mono ?_;rintro e W6 ⟨⟨u,uk,u2,uk2,A,A2,C,C2,rfl,g1,g2,ck,ck2,hcc,n1,n2⟩,h6⟩;replace hb:=bTn hb h6;replace qk:=qk.kept h6;replace qm:=qm.kept h6;replace m1:=m1.below h6;replace qa:=qa.kept h6;replace a1:=a1.below h6;clear h6 k0 k1 k2 k3 k4 k5 k6 k7 k8 k9 k10 b0 b1 b2 b3 b4 b5 b6 b7 b8 b9 b10 b11 d0 d1 d2 hcc;obtain⟨k0,k1,k2,k3,k4,k5,k6,k7,k8,k9,k10⟩:=qk.c11))
   have HB:=hdn hb
   clear k0 k1 k2 k3 k4 k5 k6 k7 k8 k9 k10
   cases hB2:runB (Md.mk cd ch cl cv cu cx ct cn m R S ad9) (oz.take NN++tz.drop NN) tn with
   | false =>
    have HB2:=hdn hB2
    clear hB2
    refine wi12_region (Md.mk cd ch cl cv cu cx ct cn m R S ad9) t1.E t1.L t1.N t1.O t2.1 w.heap.size W2.heap.size W4.heap.size NN on oc tn tc 0 oa (some tx) tx (oz.take NN) (tz.drop NN) 20 (fun _ _ _=>True) (fun _ _ _=>True) (fun h hb=>trivial) (fun h hb=>trivial) hNt (HJ.out.1) (HJ.out.2.1) (by omega) (by kernel_rfl) rfl ⟨_,rfl,rfl,rfl,rfl,by kernel_rfl⟩ ⟨_,rfl,rfl,rfl,rfl,by kernel_rfl⟩ ⟨_,rfl,rfl,rfl,rfl,by kernel_rfl⟩ ⟨_,rfl,rfl,rfl,rfl,by kernel_rfl⟩ ⟨_,rfl,rfl,rfl,rfl,by kernel_rfl⟩ ⟨_,rfl,rfl,rfl,rfl,by kernel_rfl⟩ ⟨_,rfl,rfl,rfl,rfl,by kernel_rfl⟩ ⟨_,rfl,rfl,rfl,rfl,by kernel_rfl⟩ ⟨_,rfl,rfl,rfl,rfl,by kernel_rfl⟩ ⟨_,rfl,rfl,rfl,rfl,by kernel_rfl⟩ ⟨_,rfl,rfl,rfl,rfl,by kernel_rfl⟩ ⟨_,rfl,rfl,rfl,rfl,by kernel_rfl⟩ ⟨_,rfl,rfl,rfl,rfl,by kernel_rfl⟩ ⟨_,rfl,rfl,rfl,rfl,by kernel_rfl⟩ ⟨_,rfl,rfl,rfl,rfl,by kernel_rfl⟩ ⟨_,rfl,rfl,rfl,rfl,by kernel_rfl⟩ ⟨_,rfl,rfl,rfl,rfl,by kernel_rfl⟩ ⟨_,rfl,rfl,rfl,rfl,by kernel_rfl⟩ ⟨_,rfl,rfl,rfl,rfl,by kernel_rfl⟩ ⟨_,rfl,rfl,rfl,rfl,by kernel_rfl⟩ (fun w hw=>rL7 (qm.kept hw)) (fun w hw=>rL3 (qa.kept hw)) (fun w=>run_cut45 hoe hol hNo w) (fun w hw=>run_k45 (qk.kept hw)) (fun w=>run_tail45 (by omega) htl rfl w) (fun w hw=>reads_take (HO.out.below (bTn HB.out hw)) hNo) hoe (fun w hw=>reads_drop (HT.out.below (bTn HB.out hw)) hNt) (join_wf HO.out HT.out) (fun w ya yc hw hr=>(mrun_no (Md.mk cd ch cl cv cu cx ct cn m R S ad9) t1.E t1.L t1.N t1.O t1.Y t1.U t1.D t2.1 t2.2 HE.out w (m1.below hw) (a1.below hw) ya tn yc (oz.take NN++tz.drop NN) hr HB2.out).mono fun e w' h=>by obtain⟨rfl,h4⟩:=h;exact⟨⟨none,0,none,0,rfl,trivial,trivial⟩,h4⟩) rfl rfl rfl rfl rfl (Nat.le_of_ble_eq_true rfl) ?_
    intro af Wf hs' hd' hkp' hbf fa fb e15
    obtain⟨va,vc,e13,fa⟩:=fa
    obtain⟨vb,vd,e14,fb⟩:=fb
    have ep:=fPu [91,92,93,94,95,96,97,98,99,100,101,102,103,90,104,105,106,13,14,15] hs' hd' (fun s h=>hkp' s (fun i hi e=>h (by
     rcases (show i=0∨i=1∨i=2∨i=3∨i=4∨i=5∨i=6∨i=7∨i=8∨i=9∨i=10∨i=11∨i=12∨i=13∨i=14∨i=15∨i=16∨i=17∨i=18∨i=19 by omega) with rfl|rfl|rfl|rfl|rfl|rfl|rfl|rfl|rfl|rfl|rfl|rfl|rfl|rfl|rfl|rfl|rfl|rfl|rfl|rfl<;>(simp only[wi12D,Option.some.injEq] at e;subst e;simp))))
    simp only[List.foldl] at ep
    rw[e13,e14,e15] at ep
    clear hs' hd' hkp' e13 e14 e15
    generalize af.tmps.getD 91 undef=gf91,af.tmps.getD 92 undef=gf92,af.tmps.getD 93 undef=gf93,af.tmps.getD 94 undef=gf94,af.tmps.getD 95 undef=gf95,af.tmps.getD 96 undef=gf96,af.tmps.getD 97 undef=gf97,af.tmps.getD 98 undef=gf98,af.tmps.getD 99 undef=gf99,af.tmps.getD 100 undef=gf100,af.tmps.getD 101 undef=gf101,af.tmps.getD 102 undef=gf102,af.tmps.getD 103 undef=gf103,af.tmps.getD 90 undef=gf90,af.tmps.getD 104 undef=gf104,af.tmps.getD 105 undef=gf105,af.tmps.getD 106 undef=gf106 at ep
    simp only[Act.put,List.setIfInBounds_toArray,List.set_cons_succ,List.set_cons_zero] at ep
    subst ep
    have hbE:=bTn HB.out hbf
    clear fa fb hbf w1 w2 w3 w4 g1 g2 n1 n2 ck ck2
    go_wp2
    go_ret
    exact⟨rfl,hbE⟩
   | true =>
    have HB2:=hdn hB2
    clear hB2
    refine wi12_region (Md.mk cd ch cl cv cu cx ct cn m R S ad9) t1.E t1.L t1.N t1.O t2.1 w.heap.size W2.heap.size W4.heap.size NN on oc tn tc tn oa (some tx) tx (oz.take NN) (tz.drop NN) 0 (fun W a _=>∃ A C,Grid W a tn A C (rowF (Md.mk cd ch cl cv cu cx ct cn m R S ad9) (tokF (oz.take NN++tz.drop NN)))) (fun W a _=>∃ A C,Grid W a tn A C (outF (Md.mk cd ch cl cv cu cx ct cn m R S ad9) (tokF (oz.take NN++tz.drop NN)))) (fun h hb=>h.elim fun A h=>h.elim fun C h=>⟨A,C,h.below hb⟩) (fun h hb=>h.elim fun A h=>h.elim fun C h=>⟨A,C,h.below hb⟩) hNt (HJ.out.1) (HJ.out.2.1) (by omega) (by kernel_rfl) rfl ⟨_,rfl,rfl,rfl,rfl,by kernel_rfl⟩ ⟨_,rfl,rfl,rfl,rfl,by kernel_rfl⟩ ⟨_,rfl,rfl,rfl,rfl,by kernel_rfl⟩ ⟨_,rfl,rfl,rfl,rfl,by kernel_rfl⟩ ⟨_,rfl,rfl,rfl,rfl,by kernel_rfl⟩ ⟨_,rfl,rfl,rfl,rfl,by kernel_rfl⟩ ⟨_,rfl,rfl,rfl,rfl,by kernel_rfl⟩ ⟨_,rfl,rfl,rfl,rfl,by kernel_rfl⟩ ⟨_,rfl,rfl,rfl,rfl,by kernel_rfl⟩ ⟨_,rfl,rfl,rfl,rfl,by kernel_rfl⟩ ⟨_,rfl,rfl,rfl,rfl,by kernel_rfl⟩ ⟨_,rfl,rfl,rfl,rfl,by kernel_rfl⟩ ⟨_,rfl,rfl,rfl,rfl,by kernel_rfl⟩ ⟨_,rfl,rfl,rfl,rfl,by kernel_rfl⟩ ⟨_,rfl,rfl,rfl,rfl,by kernel_rfl⟩ ⟨_,rfl,rfl,rfl,rfl,by kernel_rfl⟩ ⟨_,rfl,rfl,rfl,rfl,by kernel_rfl⟩ ⟨_,rfl,rfl,rfl,rfl,by kernel_rfl⟩ ⟨_,rfl,rfl,rfl,rfl,by kernel_rfl⟩ ⟨_,rfl,rfl,rfl,rfl,by kernel_rfl⟩ (fun w hw=>rL7 (qm.kept hw)) (fun w hw=>rL3 (qa.kept hw)) (fun w=>run_cut45 hoe hol hNo w) (fun w hw=>run_k45 (qk.kept hw)) (fun w=>run_tail45 (by omega) htl rfl w) (fun w hw=>reads_take (HO.out.below (bTn HB.out hw)) hNo) hoe (fun w hw=>reads_drop (HT.out.below (bTn HB.out hw)) hNt) (join_wf HO.out HT.out) (fun w ya yc hw hr=>(mrun_yes (Md.mk cd ch cl cv cu cx ct cn m R S ad9) t1.E t1.L t1.N t1.O t1.Y t1.U t1.D t2.1 t2.2 HE.out w (m1.below hw) (a1.below hw) ya tn yc (oz.take NN++tz.drop NN) hr HB2.out).mono fun e w' h=>by obtain⟨⟨u,k,u2,k2,A,A2,C,C2,rfl,h1,h2,-⟩,h4⟩:=h;exact⟨⟨u,k,u2,k2,rfl,⟨A,C,h1⟩,⟨A2,C2,h2⟩⟩,h4⟩) rfl rfl rfl rfl rfl (Nat.le_of_ble_eq_true rfl) ?_
    intro af Wf hs' hd' hkp' hbf fa fb e15
    obtain⟨va,vc,e13,fa⟩:=fa
    obtain⟨vb,vd,e14,fb⟩:=fb
    have ep:=fPu [91,92,93,94,95,96,97,98,99,100,101,102,103,90,104,105,106,13,14,15] hs' hd' (fun s h=>hkp' s (fun i hi e=>h (by
     rcases (show i=0∨i=1∨i=2∨i=3∨i=4∨i=5∨i=6∨i=7∨i=8∨i=9∨i=10∨i=11∨i=12∨i=13∨i=14∨i=15∨i=16∨i=17∨i=18∨i=19 by omega) with rfl|rfl|rfl|rfl|rfl|rfl|rfl|rfl|rfl|rfl|rfl|rfl|rfl|rfl|rfl|rfl|rfl|rfl|rfl|rfl<;>(simp only[wi12D,Option.some.injEq] at e;subst e;simp))))
    simp only[List.foldl] at ep
    rw[e13,e14,e15] at ep
    clear hs' hd' hkp' e13 e14 e15
    generalize af.tmps.getD 91 undef=gf91,af.tmps.getD 92 undef=gf92,af.tmps.getD 93 undef=gf93,af.tmps.getD 94 undef=gf94,af.tmps.getD 95 undef=gf95,af.tmps.getD 96 undef=gf96,af.tmps.getD 97 undef=gf97,af.tmps.getD 98 undef=gf98,af.tmps.getD 99 undef=gf99,af.tmps.getD 100 undef=gf100,af.tmps.getD 101 undef=gf101,af.tmps.getD 102 undef=gf102,af.tmps.getD 103 undef=gf103,af.tmps.getD 90 undef=gf90,af.tmps.getD 104 undef=gf104,af.tmps.getD 105 undef=gf105,af.tmps.getD 106 undef=gf106 at ep
    simp only[Act.put,List.setIfInBounds_toArray,List.set_cons_succ,List.set_cons_zero] at ep
    subst ep
    have hbE:=bTn HB.out hbf
    obtain⟨A9,C9,g9⟩:=fb
    replace g2:=g2.below hbf
    have qkE:=qk.kept hbf
    have F:=(badE_ok HE.out).fit
    have same:outF (Md.mk cd ch cl cv cu cx ct cn m R S ad9) (tokF tz) (tn-1)=outF (Md.mk cd ch cl cv cu cx ct cn m R S ad9) (tokF (oz.take NN++tz.drop NN)) (tn-1):=by
     obtain⟨⟨cc0,cc1⟩,cl0,cl1⟩:=HR.out
     have el:cl=(m.ln:Int):=F.el
     have eS:(SN:Int)=m.ln*(cn-1)+1:=by rw[←HS.out,el]
     refine outF_window F (by show 1≤cn;have:=h0';simp at this;omega) (tn-1) (fun j hj1 hj2=>join_end HO.out.len hNo ?_)
     have hj2':tn-1≤j+m.ln*(cn.toNat-1):=hj2
     have e9:((m.ln*(cn.toNat-1):Nat):Int)=m.ln*(cn-1):=by
      rw[Int.natCast_mul]
      congr 1
      have:=h0'
      simp at this
      omega
     have:=HSN.out
     omega
    have l1':(outF (Md.mk cd ch cl cv cu cx ct cn m R S ad9) (tokF tz) (tn-1)).length=cd.toNat:=outF_length _ _ _
    have l2':(outF (Md.mk cd ch cl cv cu cx ct cn m R S ad9) (tokF (oz.take NN++tz.drop NN)) (tn-1)).length=cd.toNat:=outF_length _ _ _
    obtain⟨gx,rfl⟩:=g2.some_ (by omega)
    obtain⟨gy,rfl⟩:=g9.some_ (by omega)
    have wz:IntKind.i64.wrap ((tn:Int)-1)=((tn-1:Nat):Int):=by rw[IntKind.wrap_i64];omega
    have HG:=hdn (And.intro g2 (And.intro g9 (And.intro qkE (And.intro same (And.intro l1' (And.intro l2' wz))))))
    clear fa hbf w1 w2 w3 w4 g1 n1 n2 ck ck2 g2 g9 qkE same l1' l2' wz F
    go_wp2
    obtain⟨g2,g9,qkE,same,l1',l2',wz⟩:=HG.out
    refine wi15_region w.heap.size tn tc uk2 vd cd.toNat (C2 (tn-1)) (C9 (tn-1)) gx gy (some tx) (A2 (tn-1)) (A9 (tn-1)) ((tn-1:Nat):Int) (fun W=>Below Wf.heap.size Wf W) (by kernel_rfl) rfl ⟨_,rfl,rfl,rfl,rfl,by kernel_rfl⟩ ⟨_,rfl,rfl,rfl,rfl,by kernel_rfl⟩ ⟨_,rfl,rfl,rfl,rfl,by kernel_rfl⟩ ⟨_,rfl,rfl,rfl,rfl,by kernel_rfl⟩ ⟨_,rfl,rfl,rfl,rfl,by kernel_rfl⟩ ⟨_,rfl,rfl,rfl,rfl,by kernel_rfl⟩ ⟨_,rfl,rfl,rfl,rfl,by kernel_rfl⟩ ⟨_,rfl,rfl,rfl,rfl,by kernel_rfl⟩ ⟨_,rfl,rfl,rfl,rfl,by kernel_rfl⟩ ⟨_,rfl,rfl,rfl,rfl,by kernel_rfl⟩ ⟨_,rfl,rfl,rfl,rfl,by kernel_rfl⟩ ⟨_,rfl,rfl,rfl,rfl,by kernel_rfl⟩ ⟨_,rfl,rfl,rfl,rfl,by kernel_rfl⟩ ⟨_,rfl,rfl,rfl,rfl,by kernel_rfl⟩ ⟨_,rfl,rfl,rfl,rfl,by kernel_rfl⟩ ⟨_,rfl,rfl,rfl,rfl,by kernel_rfl⟩ ⟨_,rfl,rfl,rfl,rfl,by kernel_rfl⟩ ⟨_,rfl,rfl,rfl,rfl,by kernel_rfl⟩ ⟨_,rfl,rfl,rfl,rfl,by kernel_rfl⟩ ⟨_,rfl,rfl,rfl,rfl,by kernel_rfl⟩ ⟨_,rfl,rfl,rfl,rfl,by kernel_rfl⟩ ⟨_,rfl,rfl,rfl,rfl,by kernel_rfl⟩ ⟨_,rfl,rfl,rfl,rfl,by kernel_rfl⟩ ⟨_,rfl,rfl,rfl,rfl,by kernel_rfl⟩ ⟨_,rfl,rfl,rfl,rfl,by kernel_rfl⟩ ⟨_,rfl,rfl,rfl,rfl,by kernel_rfl⟩ ⟨_,rfl,rfl,rfl,rfl,by kernel_rfl⟩ ⟨_,rfl,rfl,rfl,rfl,by kernel_rfl⟩ ⟨_,rfl,rfl,rfl,rfl,by kernel_rfl⟩ (Below.refl _ _).drew (fun w=>run_field47 _ 3 10 (by omega) w) (fun w hw=>run_k45 (qkE.kept hw)) (fun w=>by go_simp) (fun w=>by go_simp) (fun w=>by go_simp) (fun w=>run_idx31 gx tn uk2 (tn-1) _ (by omega) (by omega) rfl w) (fun w hw=>run_load34 (by have h:=(g2.below hw).cell gx rfl (tn-1) (by omega);rw[l1'] at h;exact h)) (fun w=>by go_simp) (fun w=>run_idx31 gy tn vd (tn-1) _ (by omega) (by omega) rfl w) (fun w hw=>run_load34 (by have h:=(g9.below hw).cell gy rfl (tn-1) (by omega);rw[l2'] at h;exact h)) (fun w hw=>(same_call (A2 (tn-1)) cd.toNat (C2 (tn-1)) (outF (Md.mk cd ch cl cv cu cx ct cn m R S ad9) (tokF tz) (tn-1)) (A9 (tn-1)) cd.toNat (C9 (tn-1)) w (by have h:=(g2.below hw).row (tn-1) (by omega);rw[l1'] at h;exact h) (by have h:=(g9.below hw).row (tn-1) (by omega);rw[l2',←same] at h;exact h)).mono fun e w' h=>by obtain⟨h1,m,rfl⟩:=h;exact⟨h1,drewN_below w m,bTn hw (drewN_below w m)⟩) rfl rfl rfl (Nat.le_of_ble_eq_true rfl) ?_
    intro a W9 hs hd hkp hS9 hval
    have e4:a.tmps.getD 4 undef=.bool true:=hval 28 4 (by decide) rfl
    have ep:=fPu [113,114,115,116,117,118,119,120,121,122,123,124,125,126,127,128,129,130,131,132,133,134,135,136,137,138,139,140,4] hs hd (fun s h=>hkp s (fun i hi e=>h (by
     rcases (show i=0∨i=1∨i=2∨i=3∨i=4∨i=5∨i=6∨i=7∨i=8∨i=9∨i=10∨i=11∨i=12∨i=13∨i=14∨i=15∨i=16∨i=17∨i=18∨i=19∨i=20∨i=21∨i=22∨i=23∨i=24∨i=25∨i=26∨i=27∨i=28 by omega) with rfl|rfl|rfl|rfl|rfl|rfl|rfl|rfl|rfl|rfl|rfl|rfl|rfl|rfl|rfl|rfl|rfl|rfl|rfl|rfl|rfl|rfl|rfl|rfl|rfl|rfl|rfl|rfl|rfl<;>(simp only[wi15D,Option.some.injEq] at e;subst e;simp))))
    simp only[List.foldl] at ep
    rw[e4] at ep
    have H9:=hdn hS9
    clear hs hd hkp hval hS9 e4
    generalize a.tmps.getD 113 undef=g113,a.tmps.getD 114 undef=g114,a.tmps.getD 115 undef=g115,a.tmps.getD 116 undef=g116,a.tmps.getD 117 undef=g117,a.tmps.getD 118 undef=g118,a.tmps.getD 119 undef=g119,a.tmps.getD 120 undef=g120,a.tmps.getD 121 undef=g121,a.tmps.getD 122 undef=g122,a.tmps.getD 123 undef=g123,a.tmps.getD 124 undef=g124,a.tmps.getD 125 undef=g125,a.tmps.getD 126 undef=g126,a.tmps.getD 127 undef=g127,a.tmps.getD 128 undef=g128,a.tmps.getD 129 undef=g129,a.tmps.getD 130 undef=g130,a.tmps.getD 131 undef=g131,a.tmps.getD 132 undef=g132,a.tmps.getD 133 undef=g133,a.tmps.getD 134 undef=g134,a.tmps.getD 135 undef=g135,a.tmps.getD 136 undef=g136,a.tmps.getD 137 undef=g137,a.tmps.getD 138 undef=g138,a.tmps.getD 139 undef=g139,a.tmps.getD 140 undef=g140 at ep
    simp only[Act.put,List.setIfInBounds_toArray,List.set_cons_succ,List.set_cons_zero] at ep
    subst ep
    have hbG:=bTn hbE H9.out
    clear g2 g9 qkE same l1' l2' wz
    go_wp2
    go_ret
    exact⟨rfl,hbG⟩
end
end Go.Proofs.YthliomlmhfjhnaaGreat

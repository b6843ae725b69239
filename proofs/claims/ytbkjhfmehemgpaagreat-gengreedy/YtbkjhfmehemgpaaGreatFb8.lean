/- Texts put together. -/
import Derived.Test.YtbkjhfmehemgpaaGreatFb0
import Derived.Test.YtbkjhfmehemgpaaGreatFb3
namespace Go.Proofs.YtbkjhfmehemgpaaGreat
set_option maxRecDepth 20000
set_option maxHeartbeats 16000000
open Go.ChangeShapes Go.WideShapes Go.ChangeAt Go.RowKit
set_option linter.unusedVariables false
set_option linter.unusedSimpArgs false
theorem visit_44 (d h l v u x t n:Int)(w:World)(mb vb ln lc ne:Nat)(LA:Addr)(UA DA:Nat→Addr)(uc dc:Nat→Nat)(vd dd xd ud:Int)
  (e1:v*d=vd) (e2:d*d=dd) (e3:x*d=xd) (e4:u*d=ud) (e5:d*u=ud)
  (b1:IntKind.i64.wrap vd=vd) (b2:IntKind.i64.wrap dd=dd) (b3:IntKind.i64.wrap xd=xd) (b4:IntKind.i64.wrap ud=ud)
  (l1:ln≤1000) (l2:ne≤1000) (R:World→Prop) (hR:∀ W,R W→Held mb w.heap.size ln lc ne LA UA DA uc dc d v u x W)
  (S0 T1 T2:World→Prop) (K M M':Nat→Nat→World→Prop)
  (h0:w.cell? ⟨mb,0,none⟩=some (.int .i64 d)∧w.cell? ⟨mb,1,none⟩=some (.int .i64 h)∧w.cell? ⟨mb,2,none⟩=some (.int .i64 l)∧w.cell? ⟨mb,3,none⟩=some (.int .i64 v) ∧
   w.cell? ⟨mb,4,none⟩=some (.int .i64 u)∧w.cell? ⟨mb,5,none⟩=some (.int .i64 x)∧w.cell? ⟨mb,6,none⟩=some (.int .i64 t)∧w.cell? ⟨mb,7,none⟩=some (.int .i64 n))
  (hs:S0 (w.alloc (.cells #[.int .i64 d,.int .i64 h,.int .i64 l,.int .i64 v,.int .i64 u,.int .i64 x,.int .i64 t,.int .i64 n] 23))) (hs':R (w.alloc (.cells #[.int .i64 d,.int .i64 h,.int .i64 l,.int .i64 v,.int .i64 u,.int .i64 x,.int .i64 t,.int .i64 n] 23)))
  (o0:∀ W,S0 W→R W→Calls Tryz.prog 69 #[.pointer (some ⟨mb,8,none⟩),.int .i64 vd,.pointer (some ⟨vb,0,none⟩)] W.drew fun e W'=>e=.returned (.tuple #[])∧K 0 0 W'∧R W')
  (p0:∀ i,i<ln→∀ W,K i 0 W→R W→Calls Tryz.prog 69 #[.pointer (some (LA.add (i*9))),.int .i64 d,.pointer (some ⟨vb,0,none⟩)] W.drew fun e W'=>e=.returned (.tuple #[])∧K i 1 W'∧R W')
  (p1:∀ i,i<ln→∀ W,K i 1 W→R W→Calls Tryz.prog 69 #[.pointer (some ⟨(LA.add (i*9)).block,(LA.add (i*9)).off+1,none⟩),.int .i64 dd,.pointer (some ⟨vb,0,none⟩)] W.drew fun e W'=>e=.returned (.tuple #[])∧K i 2 W'∧R W')
  (p2:∀ i,i<ln→∀ W,K i 2 W→R W→Calls Tryz.prog 69 #[.pointer (some ⟨(LA.add (i*9)).block,(LA.add (i*9)).off+2,none⟩),.int .i64 dd,.pointer (some ⟨vb,0,none⟩)] W.drew fun e W'=>e=.returned (.tuple #[])∧K i 3 W'∧R W')
  (p3:∀ i,i<ln→∀ W,K i 3 W→R W→Calls Tryz.prog 69 #[.pointer (some ⟨(LA.add (i*9)).block,(LA.add (i*9)).off+3,none⟩),.int .i64 dd,.pointer (some ⟨vb,0,none⟩)] W.drew fun e W'=>e=.returned (.tuple #[])∧K i 4 W'∧R W')
  (p4:∀ i,i<ln→∀ W,K i 4 W→R W→Calls Tryz.prog 69 #[.pointer (some ⟨(LA.add (i*9)).block,(LA.add (i*9)).off+4,none⟩),.int .i64 dd,.pointer (some ⟨vb,0,none⟩)] W.drew fun e W'=>e=.returned (.tuple #[])∧K i 5 W'∧R W')
  (p5:∀ i,i<ln→∀ W,K i 5 W→R W→Calls Tryz.prog 69 #[.pointer (some ⟨(LA.add (i*9)).block,(LA.add (i*9)).off+5,none⟩),.int .i64 d,.pointer (some ⟨vb,0,none⟩)] W.drew fun e W'=>e=.returned (.tuple #[])∧K i 6 W'∧R W')
  (p6:∀ i,i<ln→∀ W,K i 6 W→R W→Calls Tryz.prog 69 #[.pointer (some ⟨(LA.add (i*9)).block,(LA.add (i*9)).off+6,none⟩),.int .i64 xd,.pointer (some ⟨vb,0,none⟩)] W.drew fun e W'=>e=.returned (.tuple #[])∧M i 0 W'∧R W')
  (p7:∀ i,i<ln→∀ j,j<ne→∀ W,M i j W→R W→Calls Tryz.prog 69 #[.pointer (some ((UA i).add j)),.int .i64 ud,.pointer (some ⟨vb,0,none⟩)] W.drew fun e W'=>e=.returned (.tuple #[])∧M' i j W'∧R W')
  (p8:∀ i,i<ln→∀ j,j<ne→∀ W,M' i j W→R W→Calls Tryz.prog 69 #[.pointer (some ((DA i).add j)),.int .i64 ud,.pointer (some ⟨vb,0,none⟩)] W.drew fun e W'=>e=.returned (.tuple #[])∧M i (j+1) W'∧R W')
  (p9:∀ i,i<ln→∀ W,M i ne W→K (i+1) 0 W)
  (o1:∀ W,K ln 0 W→R W→Calls Tryz.prog 69 #[.pointer (some ⟨mb,10,none⟩),.int .i64 d,.pointer (some ⟨vb,0,none⟩)] W.drew fun e W'=>e=.returned (.tuple #[])∧T1 W'∧R W')
  (o2:∀ W,T1 W→R W→Calls Tryz.prog 69 #[.pointer (some ⟨mb,11,none⟩),.int .i64 vd,.pointer (some ⟨vb,0,none⟩)] W.drew fun e W'=>e=.returned (.tuple #[])∧T2 W'∧R W') :
  Calls Tryz.prog 68 #[.pointer (some ⟨mb,0,none⟩),.func (.func 69) #[] #[.pointer (some ⟨vb,0,none⟩)]] w fun e w'=>e=.returned (.tuple #[])∧T2 w'∧R w':=by
 have HR:=hdn hR
 have Ho0:=hdn o0
 have Ho1:=hdn o1
 have Ho2:=hdn o2
 have Hp0:=hdn p0
 have Hp1:=hdn p1
 have Hp2:=hdn p2
 have Hp3:=hdn p3
 have Hp4:=hdn p4
 have Hp5:=hdn p5
 have Hp6:=hdn p6
 have Hp7:=hdn p7
 have Hp8:=hdn p8
 have Hp9:=hdn p9
 clear hR o0 o1 o2 p0 p1 p2 p3 p4 p5 p6 p7 p8 p9
 obtain⟨a0,a1,a2,a3,a4,a5,a6,a7⟩:=h0
 obtain⟨W0,eW⟩:∃ W0,w.alloc (.cells #[.int .i64 d,.int .i64 h,.int .i64 l,.int .i64 v,.int .i64 u,.int .i64 x,.int .i64 t,.int .i64 n] 23)=W0:=⟨_,rfl⟩
 rw[eW] at hs hs'
 have k0:=Ho0.out _ hs hs'
 obtain⟨c9,d0,d3,d4,d5,-,-⟩:=HR.out _ hs'
 clear hs hs'
 have EW:=hdn eW
 clear eW
 go_enter Tryz.func68,Tryz.ntmps68
 go_wp2
 rw[EW.out]
 clear a0 a1 a2 a3 a4 a5 a6 a7 EW
 go_region_held3 (fun W=>W.cell? ⟨w.heap.size,0,none⟩=some (.int .i64 d)∧W.cell? ⟨w.heap.size,3,none⟩=some (.int .i64 v)) (exact⟨d0,d3⟩) (first
  | (go_at_call 69;refine k0.mono ?_;rintro e W1 ⟨rfl,i1,r1⟩;clear k0 c9 d0 d3 d4 d5;obtain⟨c9,d0,d3,d4,d5,-,-⟩:=HR.out _ r1))
 rename World=>W2
 go_wp2
 go_loopw [27] (fun i wr=>∃ k:Nat,k≤ln∧i=.int .i64 k∧K k 0 wr∧R wr) (fun i _=>ln-(intOf i).toNat)
 case atStart=>exact⟨0,Nat.zero_le _,rfl,i1,r1⟩
 case round =>
  clear c9 d0 d3 d4 d5 i1 r1
  obtain⟨i,hi,rfl,i1,r1⟩:=hrel
  obtain⟨c9,d0,d3,d4,d5,-,-⟩:=HR.out _ r1
  by_cases hlt:i<ln
  ·have hlt':(i:Int)<(ln:Int):=by omega
   have up:=(HR.out _ r1).up i hlt
   have dn:=(HR.out _ r1).dn i hlt
   have k0:=Hp0.out i hlt _ i1 r1
   clear i1 r1
   obtain⟨P,eP⟩:∃ P,LA.add (i*9)=P:=⟨_,rfl⟩
   have HH:Hid (∀ W,R W→W.cell? ⟨P.block,P.off+7,none⟩=some (.slice (some (UA i)) ne (uc i))∧W.cell? ⟨P.block,P.off+8,none⟩=some (.slice (some (DA i)) ne (dc i))):=fun W hW=>by rw[←eP];exact⟨(HR.out _ hW).up i hlt,(HR.out _ hW).dn i hlt⟩
   rw[eP] at k0 up dn
   go_wp2
   go_region_held3 (fun W=>W.cell? ⟨w.heap.size,0,none⟩=some (.int .i64 d)) (exact d0) (first
    | (go_at_call 69;refine k0.mono ?_;rintro e W1 ⟨rfl,i1,r1⟩;clear k0 c9 d0 d3 d4 d5;obtain⟨c9,d0,d3,d4,d5,-,-⟩:=HR.out _ r1))
   have k0:=Hp1.out i hlt _ i1 r1
   rw[eP] at k0
   clear i1 r1
   go_wp2
   go_region_held3 (fun W=>W.cell? ⟨w.heap.size,0,none⟩=some (.int .i64 d)∧W.cell? ⟨w.heap.size,0,none⟩=some (.int .i64 d)) (exact⟨d0,d0⟩) (first
    | (go_at_call 69;refine k0.mono ?_;rintro e W1 ⟨rfl,i1,r1⟩;clear k0 c9 d0 d3 d4 d5;obtain⟨c9,d0,d3,d4,d5,-,-⟩:=HR.out _ r1))
   have k0:=Hp2.out i hlt _ i1 r1
   rw[eP] at k0
   clear i1 r1
   go_wp2
   go_region_held3 (fun W=>W.cell? ⟨w.heap.size,0,none⟩=some (.int .i64 d)∧W.cell? ⟨w.heap.size,0,none⟩=some (.int .i64 d)) (exact⟨d0,d0⟩) (first
    | (go_at_call 69;refine k0.mono ?_;rintro e W1 ⟨rfl,i1,r1⟩;clear k0 c9 d0 d3 d4 d5;obtain⟨c9,d0,d3,d4,d5,-,-⟩:=HR.out _ r1))
   have k0:=Hp3.out i hlt _ i1 r1
   rw[eP] at k0
   clear i1 r1
   go_wp2
   go_region_held3 (fun W=>W.cell? ⟨w.heap.size,0,none⟩=some (.int .i64 d)∧W.cell? ⟨w.heap.size,0,none⟩=some (.int .i64 d)) (exact⟨d0,d0⟩) (first
    | (go_at_call 69;refine k0.mono ?_;rintro e W1 ⟨rfl,i1,r1⟩;clear k0 c9 d0 d3 d4 d5;obtain⟨c9,d0,d3,d4,d5,-,-⟩:=HR.out _ r1))
   have k0:=Hp4.out i hlt _ i1 r1
   rw[eP] at k0
   clear i1 r1
   go_wp2
   go_region_held3 (fun W=>W.cell? ⟨w.heap.size,0,none⟩=some (.int .i64 d)∧W.cell? ⟨w.heap.size,0,none⟩=some (.int .i64 d)) (exact⟨d0,d0⟩) (first
    | (go_at_call 69;refine k0.mono ?_;rintro e W1 ⟨rfl,i1,r1⟩;clear k0 c9 d0 d3 d4 d5;obtain⟨c9,d0,d3,d4,d5,-,-⟩:=HR.out _ r1))
   have k0:=Hp5.out i hlt _ i1 r1
   rw[eP] at k0
   clear i1 r1
   go_wp2
   go_region_held3 (fun W=>W.cell? ⟨w.heap.size,0,none⟩=some (.int .i64 d)) (exact d0) (first
    | (go_at_call 69;refine k0.mono ?_;rintro e W1 ⟨rfl,i1,r1⟩;clear k0 c9 d0 d3 d4 d5;obtain⟨c9,d0,d3,d4,d5,-,-⟩:=HR.out _ r1))
   have k0:=Hp6.out i hlt _ i1 r1
   rw[eP] at k0
   clear i1 r1
   go_wp2
   go_region_held3 (fun W=>W.cell? ⟨w.heap.size,0,none⟩=some (.int .i64 d)∧W.cell? ⟨w.heap.size,5,none⟩=some (.int .i64 x)) (exact⟨d0,d5⟩) (first
    | (go_at_call 69;refine k0.mono ?_;rintro e W1 ⟨rfl,i1,r1⟩;clear k0 c9 d0 d3 d4 d5;obtain⟨c9,d0,d3,d4,d5,-,-⟩:=HR.out _ r1))
   obtain⟨up,dn⟩:=HH.out _ r1
   rename World=>W9
   go_wp2
   go_loopw [105] (fun j wr=>∃ k:Nat,k≤ne∧j=.int .i64 k∧M i k wr∧R wr) (fun j _=>ne-(intOf j).toNat)
   case atStart=>exact⟨0,Nat.zero_le _,rfl,i1,r1⟩
   case round =>
    clear c9 d0 d3 d4 d5 i1 r1 up dn
    obtain⟨j,hj,rfl,i1,r1⟩:=hrel
    obtain⟨c9,d0,d3,d4,d5,-,-⟩:=HR.out _ r1
    obtain⟨up,dn⟩:=HH.out _ r1
    by_cases hlj:j<ne
    ·have hlj':(j:Int)<(ne:Int):=by omega
     have k0:=Hp7.out i hlt j hlj _ i1 r1
     clear i1 r1
     go_wp2
     go_region_held3 (fun W=>W.cell? ⟨P.block,P.off+7,none⟩=some (.slice (some (UA i)) ne (uc i))∧W.cell? ⟨w.heap.size,4,none⟩=some (.int .i64 u)∧W.cell? ⟨w.heap.size,0,none⟩=some (.int .i64 d)) (exact⟨up,d4,d0⟩) (first
      | (go_at_call 69;refine k0.mono ?_;rintro e W1 ⟨rfl,i1,r1⟩;clear k0 c9 d0 d3 d4 d5 up dn;obtain⟨c9,d0,d3,d4,d5,-,-⟩:=HR.out _ r1;obtain⟨up,dn⟩:=HH.out _ r1))
     have k0:=Hp8.out i hlt j hlj _ i1 r1
     clear i1 r1
     go_wp2
     go_region_held3 (fun W=>W.cell? ⟨P.block,P.off+8,none⟩=some (.slice (some (DA i)) ne (dc i))∧W.cell? ⟨w.heap.size,4,none⟩=some (.int .i64 u)∧W.cell? ⟨w.heap.size,0,none⟩=some (.int .i64 d)) (exact⟨dn,d4,d0⟩) (first
      | (go_at_call 69;refine k0.mono ?_;rintro e W1 ⟨rfl,i1,r1⟩;clear k0 c9 d0 d3 d4 d5 up dn;obtain⟨c9,d0,d3,d4,d5,-,-⟩:=HR.out _ r1;obtain⟨up,dn⟩:=HH.out _ r1))
     clear c9 d0 d3 d4 d5 up dn
     go_wp2
     go_roundw
     case rel=>exact⟨j+1,by omega,by go_num,i1,r1⟩
     case measure=>simp[intOf];omega
    ·have e:j=ne:=by omega
     subst e
     have i2:=Hp9.out i hlt _ i1
     clear i1 up dn c9 d0 d3 d4 d5
     go_wp2
     go_roundw
     case rel=>exact⟨i+1,by omega,by go_num,i2,r1⟩
     case measure=>simp[intOf];omega
  ·have e:i=ln:=by omega
   subst e
   have k0:=Ho1.out _ i1 r1
   clear i1 r1
   go_wp2
   go_region_held3 (fun W=>W.cell? ⟨w.heap.size,0,none⟩=some (.int .i64 d)) (exact d0) (first
    | (go_at_call 69;refine k0.mono ?_;rintro e W1 ⟨rfl,i1,r1⟩;clear k0 c9 d0 d3 d4 d5;obtain⟨c9,d0,d3,d4,d5,-,-⟩:=HR.out _ r1))
   have k0:=Ho2.out _ i1 r1
   clear i1 r1
   go_wp2
   go_region_held3 (fun W=>W.cell? ⟨w.heap.size,0,none⟩=some (.int .i64 d)∧W.cell? ⟨w.heap.size,3,none⟩=some (.int .i64 v)) (exact⟨d0,d3⟩) (first
    | (go_at_call 69;refine k0.mono ?_;rintro e W1 ⟨rfl,i1,r1⟩;clear k0 c9 d0 d3 d4 d5;obtain⟨c9,d0,d3,d4,d5,-,-⟩:=HR.out _ r1))
   clear c9 d0 d3 d4 d5
   go_wp2
   go_end0
   exact⟨rfl,i1,r1⟩
def cmpI (a b:Int):Int:=if a<b then -1 else if b<a then 1 else 0
def orI (u v:Int):Int:=if u=0 then v else u
theorem cmp64_call (a b:Int)(w:World):Calls Tryz.prog 117 #[.int .i64 a,.int .i64 b] w fun e w'=>e=.returned (.int .i64 (cmpI a b))∧w'=w:=by
 unfold cmpI
 by_cases h:a<b
 ·rw[if_pos h]
  go_enter Tryz.func117,Tryz.ntmps117
  go_wp2
  go_ret
  exact⟨rfl,rfl⟩
 ·rw[if_neg h]
  by_cases h':b<a
  ·rw[if_pos h']
   go_enter Tryz.func117,Tryz.ntmps117
   go_wp2
   go_ret
   exact⟨rfl,rfl⟩
  ·rw[if_neg h']
   go_enter Tryz.func117,Tryz.ntmps117
   go_wp2
   go_ret
   exact⟨rfl,rfl⟩
theorem cmpInt_call (a b:Int)(w:World):Calls Tryz.prog 160 #[.int .i64 a,.int .i64 b] w fun e w'=>e=.returned (.int .i64 (cmpI a b))∧w'=w:=by
 unfold cmpI
 by_cases h:a<b
 ·rw[if_pos h]
  go_enter Tryz.func160,Tryz.ntmps160
  go_wp2
  go_ret
  exact⟨rfl,rfl⟩
 ·rw[if_neg h]
  by_cases h':b<a
  ·rw[if_pos h']
   go_enter Tryz.func160,Tryz.ntmps160
   go_wp2
   go_ret
   exact⟨rfl,rfl⟩
  ·rw[if_neg h']
   go_enter Tryz.func160,Tryz.ntmps160
   go_wp2
   go_ret
   exact⟨rfl,rfl⟩
theorem or_call (b:Nat)(c:Nat)(u v:Int)(w:World)(h0:w.cell? ⟨b,0,none⟩=some (.int .i64 u))(h1:w.cell? ⟨b,1,none⟩=some (.int .i64 v)) :
  Calls Tryz.prog 159 #[.slice (some ⟨b,0,none⟩) 2 c] w fun e w'=>e=.returned (.int .i64 (orI u v))∧w'=w:=by
 unfold orI
 by_cases hu:u=0
 ·rw[if_pos hu]
  subst hu
  by_cases hv:v=0
  ·subst hv
   go_enter Tryz.func159,Tryz.ntmps159
   go_wp2
   refine wp_loop_rounds 3 ?_
   rw[rounds_succ]
   go_wp2
   rw[rounds_succ]
   go_wp2
   rw[rounds_succ]
   go_wp2
   go_ret
   exact⟨rfl,rfl⟩
  ·go_enter Tryz.func159,Tryz.ntmps159
   go_wp2
   refine wp_loop_rounds 2 ?_
   rw[rounds_succ]
   go_wp2
   rw[rounds_succ]
   go_wp2
   go_ret
   exact⟨rfl,rfl⟩
 ·rw[if_neg hu]
  go_enter Tryz.func159,Tryz.ntmps159
  go_wp2
  refine wp_loop_rounds 1 ?_
  rw[rounds_succ]
  go_wp2
  go_ret
  exact⟨rfl,rfl⟩
theorem cf_eq (xs:List Int)(i j:Nat):orI (cmpI (xs.getD j 0) (xs.getD i 0)) (cmpI i j)=cfZ xs i j:=by
 unfold orI cmpI cfZ
 repeat' split
 all_goals omega
theorem order_call (a:Option Addr)(n c:Nat)(w:World) :
  Calls Tryz.prog 122 #[.slice a n c] w fun e w'=>e=.returned (.func (.func 158) #[] #[.pointer (some ⟨w.heap.size,0,none⟩)])∧w'=w.alloc (.cells #[.slice a n c] 70):=by
 go_enter Tryz.func122,Tryz.ntmps122
 go_wp2
 go_ret
 exact⟨rfl,rfl⟩
theorem closure_call (b:Nat)(x:Addr)(n c:Nat)(xs:List Int)(i j:Nat)(hi:i<n)(hj:j<n)(w:World)(hbx:w.cell? ⟨b,0,none⟩=some (.slice (some x) n c))(h0:Reads .i64 w (some x) n xs) :
  Calls Tryz.prog 158 #[.int .i64 i,.int .i64 j,.pointer (some ⟨b,0,none⟩)] w fun e w'=>e=.returned (.int .i64 (cfZ xs i j))∧∃ o,w'=(w.alloc o).drew:=by
 have hm:=h0.max
 have ci:=h0.cell x rfl i hi
 have cj:=h0.cell x rfl j hj
 have hb:b<w.heap.size:=World.block_lt_of_cell? _ _ hbx
 rw[←cf_eq]
 obtain⟨X,eX⟩:∃ X,xs.getD i 0=X:=⟨_,rfl⟩
 obtain⟨Y,eY⟩:∃ Y,xs.getD j 0=Y:=⟨_,rfl⟩
 rw[eX] at ci ⊢
 rw[eY] at cj ⊢
 clear eX eY h0
 have k1:=fun W=>cmp64_call Y X W
 have k2:=fun W=>cmpInt_call i j W
 obtain⟨A,eA⟩:∃ A,cmpI Y X=A:=⟨_,rfl⟩
 obtain⟨B,eB⟩:∃ B,cmpI i j=B:=⟨_,rfl⟩
 rw[eA] at k1 ⊢
 rw[eB] at k2 ⊢
 clear eA eB
 go_enter Tryz.func158,Tryz.ntmps158
 go_wp2
 go_region_with (first
  | (go_at_call 117;refine (k1 _).mono ?_;rintro e W1 ⟨rfl,hw⟩;obtain rfl:=hw.symm;clear hw)
  | (go_at_call 160;refine (k2 _).mono ?_;rintro e W1 ⟨rfl,hw⟩;obtain rfl:=hw.symm;clear hw)
  | (go_at_call 159;refine (or_call _ _ A B _ (by simp) (by simp)).mono ?_;rintro e W1 ⟨rfl,hw⟩;obtain rfl:=hw.symm;clear hw))
 all_goals
  go_wp2
  go_ret
  exact⟨rfl,_,rfl⟩
theorem cf_lt {xs:List Int}{i j:Nat}(h:ahead xs i j=true):cfZ xs i j<0:=by
 rw[←cfZ_neg] at h
 simpa using h
theorem cf_ge {xs:List Int}{i j:Nat}(h:ahead xs i j=false):¬cfZ xs i j<0:=by
 rw[←cfZ_neg] at h
 simpa using h
theorem drbelow_one {w W:World}(h:Below w.heap.size w W){W':World}(k:∃ o,W'=(W.alloc o).drew):Below w.heap.size w W':=by
 obtain⟨o,rfl⟩:=k
 exact bDr (bNw h o) ⟨1,rfl⟩
theorem max_nil (a0:Option Addr)(c0:Nat)(w:World):Calls Tryz.prog 86 #[.slice a0 0 c0] w fun e w'=>e=.returned (.int .i64 (-1))∧w'=w:=by
 go_enter Tryz.func86,Tryz.ntmps86
 go_wp2_with fail
 go_ret
 exact⟨rfl,rfl⟩
theorem max_some (a0:Option Addr)(n c0:Nat)(xs:List Int)(w:World)(h0:Reads .i64 w a0 n xs)(hn:0<n) :
  Calls Tryz.prog 86 #[.slice a0 n c0] w fun e w'=>e=.returned (.int .i64 ((places xs).getD 0 0:Nat))∧Below w.heap.size w w':=by
 have hm:=h0.max
 have hl:=h0.len
 obtain⟨x,rfl⟩:=h0.some_ hn
 have hn':¬(n:Int)=0:=by omega
 have e0:=fun f (hf:f<n) (h:∀ j,j<n→ahead xs j f=false)=>(places_ordered xs).first (i:=f) (by omega) (fun j hj=>h j (by omega))
 obtain⟨F,eF⟩:∃ F,(places xs).getD 0 0=F:=⟨_,rfl⟩
 rw[eF] at e0 ⊢
 clear eF
 go_enter Tryz.func86,Tryz.ntmps86
 go_wp2_with (go_at_call 122;refine (order_call _ _ _ _).mono ?_;rintro e W1 ⟨rfl,hW1⟩;have bx:W1.cell? ⟨w.heap.size,0,none⟩=some (.slice (some x) n c0):=(by rw[hW1];simp);have hb1:Below w.heap.size w W1:=(by rw[hW1];exact bNw (Below.refl _ _) _);have r1:=h0.below hb1;clear hW1 h0)
 go_loopw [4,13] (fun s q wr=>∃ k f:Nat,k≤n∧f<n∧q=.int .i64 k∧s=.int .i64 f∧(∀ j,j<k→ahead xs j f=false)∧Below W1.heap.size W1 wr) (fun _ q _=>n-(intOf q).toNat)
 case atStart=>exact⟨0,0,Nat.zero_le _,hn,rfl,rfl,fun j hj=>by omega,Below.refl _ _⟩
 case round =>
  obtain⟨k,f,hk,hf,rfl,rfl,hall,hbr⟩:=hrel
  by_cases hlt:k<n
  ·have kc:=closure_call w.heap.size x n c0 xs k f hlt hf wr (below_cell hbr bx) (r1.below hbr)
   by_cases ha:ahead xs k f=true
   ·have hc:=cf_lt ha
    have hall':Hid (∀ j,j<k+1→ahead xs j k=false):=fun j hj=>by
     by_cases e:j=k
     ·subst e;exact ahead_irrefl _ _
     ·cases h:ahead xs j k
      ·rfl
      ·have h1:=hall j (by omega)
       rw[ahead_trans h ha] at h1
       cases h1
    obtain⟨C,eC⟩:∃ C,cfZ xs k f=C:=⟨_,rfl⟩
    rw[eC] at kc hc
    clear eC ha hall
    go_wp2_with (go_at_call 158;refine kc.mono ?_;rintro e W2 ⟨rfl,hw2⟩)
    go_roundw
    case rel=>exact⟨k+1,k,by omega,hlt,by go_num,rfl,hall'.out,drbelow_one hbr hw2⟩
    case measure=>simp[intOf];omega
   ·have ha':ahead xs k f=false:=by simpa using ha
    have hc:=cf_ge ha'
    have hall':Hid (∀ j,j<k+1→ahead xs j f=false):=fun j hj=>by
     by_cases e:j=k
     ·subst e;exact ha'
     ·exact hall j (by omega)
    obtain⟨C,eC⟩:∃ C,cfZ xs k f=C:=⟨_,rfl⟩
    rw[eC] at kc hc
    clear eC ha ha' hall
    go_wp2_with (go_at_call 158;refine kc.mono ?_;rintro e W2 ⟨rfl,hw2⟩)
    go_roundw
    case rel=>exact⟨k+1,f,by omega,hf,by go_num,rfl,hall'.out,drbelow_one hbr hw2⟩
    case measure=>simp[intOf];omega
  ·have e:k=n:=by omega
   subst e
   obtain rfl:=e0 f hf hall
   clear e0 hall
   go_wp2
   go_ret
   exact⟨rfl,bTn hb1 hbr⟩
theorem max_call (a0:Option Addr)(n c0:Nat)(xs:List Int)(w:World)(h0:Reads .i64 w a0 n xs) :
  Calls Tryz.prog 86 #[.slice a0 n c0] w fun e w'=>e=.returned (.int .i64 (maxZ xs))∧Below w.heap.size w w':=by
 have hl:=h0.len
 unfold maxZ
 rw[hl]
 by_cases h:n=0
 ·rw[if_pos h]
  subst h
  exact (max_nil a0 c0 w).mono fun e w' ⟨he,hw⟩=>⟨he,hw ▸ Below.refl _ _⟩
 ·rw[if_neg h]
  exact max_some a0 n c0 xs w h0 (by omega)
end Go.Proofs.YtbkjhfmehemgpaaGreat

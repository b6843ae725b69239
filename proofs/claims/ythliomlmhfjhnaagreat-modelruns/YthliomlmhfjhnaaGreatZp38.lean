/- Texts put together. -/
import Derived.Test.YthliomlmhfjhnaaGreatZp36
import Derived.Test.YthliomlmhfjhnaaGreatZp35
import Derived.Test.YthliomlmhfjhnaaGreatZp33
namespace Go.Proofs.YthliomlmhfjhnaaGreat
set_option maxRecDepth 20000
set_option maxHeartbeats 16000000
open Go.ChangeShapes Go.WideShapes Go.ChangeAt Go.RowKit
set_option linter.unusedVariables false
set_option linter.unusedSimpArgs false
section
open Go.Sort hiding Below
structure QlK (m:AdV):Prop where
 ln:m.ln≤20
 f:∀ i,i<m.ln→∀ j,j<4→(m.f i j).length≤140737488351232
theorem QjF (R S:Int)(La:Option Addr)(ml Lc:Nat)(L:SL)(Y:Nat→Nat→SL)(m:AdV)(w:World)(hM:AdAt w L Y m)(hF:QlK m)(e1:L.a=La)(hml:m.ln=ml) :
  Calls Tryz.prog 10 #[.agg #[I4 R,I4 S,.slice La ml Lc]] w fun e w'=>∃ (L':SL) (Y':Nat→Nat→SL),e=.returned (.agg #[I4 R,I4 S,L'.w])∧NewA w.heap.size w' L' Y' m∧Bw w w':=by
 obtain⟨W0,eW⟩:∃ W0,(w.alloc (.cells #[I4 R,I4 S,.slice La ml Lc] 30)).alloc (.cells #[I4 0,I4 0,nilS] 30)=W0:=⟨_,rfl⟩
 have hb:Bw w W0:=eW ▸ bNw (bNw (bT w) _) _
 have qa:Blk 30 W0 w.heap.size #[I4 R,I4 S,.slice La ml Lc]:=eW ▸ (Blk.new 30 w _).kept (bNw bR _)
 have qb:Blk 30 W0 (w.heap.size+1) #[I4 0,I4 0,nilS]:=eW ▸ Blk.new_at 30 (w.alloc _) _ _ (by simp)
 have HM:=hdn hM
 have HF:=hdn hF
 have HL:=hdn (And.intro e1 hml)
 have Hml:ml≤20:=by have:=hF.ln;omega
 have HV:=hdn (And.intro hb (And.intro qa qb))
 have EW:=hdn eW
 clear hM hF e1 hml hb qa qb eW
 go_enter Tryz.func10,Tryz.ntmps10
 go_wp2
 rw[EW.out]
 go_loopw [3,4,5] (fun v3 i _ wr=>∃ k:Nat,k≤ml∧i=I4 k∧Bw W0 wr∧∃ Y':Nat→Nat→SL,TA W0.heap.size wr v3 k Y' m.f) (fun _ i _ _=>ml-(intOf i).toNat)
 case atStart=>exact⟨0,Nat.zero_le _,rfl,Below.refl _ _,fun _ _=>SL.nought,TA.nil _ _ _ _⟩
 case round =>
  obtain⟨k,hk,rfl,hbr,Y',tL⟩:=hrel
  obtain⟨WR,eWR⟩:∃ WR,WR=wr:=⟨_,rfl⟩
  subst eWR
  obtain⟨bV,qa,qb⟩:=HV.out
  have hbw:=bTn bV hbr
  obtain⟨a0,a1,a2⟩:=(qa.kept hbr).c3
  by_cases hlt:k<ml
  ·have hMr:=HM.out.below hbw
   have hkm:k<m.ln:=by rw[HL.out.2];exact hlt
   obtain⟨x0,hx0⟩:=hMr.some_ (by omega)
   obtain rfl:La=some x0:=HL.out.1.symm.trans hx0
   have la:=hMr.lay k hkm
   obtain⟨P,eP,p0,p1,p2,p3⟩:=Qiz (fun j hj=>hMr.cell x0 hx0 k hkm j hj)
   have hlt':(k:Int)<(ml:Int):=by omega
   have srs:=hbr.size
   have HB:=hdn (And.intro hbw hbr)
   have HLA:=hdn la
   have HT:=hdn tL
   have HS:=hdn srs
   clear hMr hbw hbr la tL bV qa qb srs
   go_wp2
   have q5:=Blk.new 61 WR #[(Y k 0).w,(Y k 1).w,(Y k 2).w,(Y k 3).w]
   obtain⟨W1,e1⟩:∃ W1,WR.alloc (.cells #[(Y k 0).w,(Y k 1).w,(Y k 2).w,(Y k 3).w] 61)=W1:=⟨_,rfl⟩
   have bW1:Bw WR W1:=e1 ▸ bNw bR _
   rw[e1] at q5 ⊢
   clear e1 p0 p1 p2 p3 a0 a1 a2
   refine Qjo W0.heap.size WR.heap.size k _ Y' m.f (Y k) (by kernel_rfl) rfl ⟨_,rfl,rfl,rfl,rfl,by kernel_rfl⟩ (fun j hj=>by rcases l4 (show j<4 by omega) with rfl|rfl|rfl|rfl<;>exact⟨⟨_,rfl,rfl,rfl,rfl,by kernel_rfl⟩,⟨_,rfl,rfl,rfl,rfl,by kernel_rfl⟩,⟨_,rfl,rfl,rfl,rfl,by kernel_rfl⟩,⟨_,rfl,rfl,rfl,rfl,by kernel_rfl⟩⟩)
    ⟨_,rfl,rfl,rfl,rfl,by kernel_rfl⟩ ⟨_,rfl,rfl,rfl,rfl,by kernel_rfl⟩ ⟨_,rfl,rfl,rfl,rfl,by kernel_rfl⟩ ⟨_,rfl,rfl,rfl,rfl,by kernel_rfl⟩ rfl rfl (Nat.le_of_ble_eq_true rfl) (Nat.le_trans HS.out bW1.size) (HT.out.below bW1) q5 (fun j hj=>⟨(HLA.out j hj).below bW1,by have:=HF.out.f k hkm j hj;omega⟩) (by omega) ?_
   intro a W2 s hs hd hkp hbo hta
   have bW2:Bw W0 W2:=(bTn HB.out.2 bW1).trans hbo
   have ep:=fPu [3,18,19,20,21,22,23,24,25,26,27,28,29,30,31,32,33,34,35,36,37] hs hd (fun s h=>hkp s (by simp at h;omega))
   simp only[List.foldl] at ep
   clear hs hd hkp
   generalize a.tmps.getD 3 undef=g3 at ep hta
   generalize a.tmps.getD 18 undef=g18,a.tmps.getD 19 undef=g19,a.tmps.getD 20 undef=g20,a.tmps.getD 21 undef=g21,a.tmps.getD 22 undef=g22,a.tmps.getD 23 undef=g23,a.tmps.getD 24 undef=g24,a.tmps.getD 25 undef=g25,a.tmps.getD 26 undef=g26,a.tmps.getD 27 undef=g27,a.tmps.getD 28 undef=g28,a.tmps.getD 29 undef=g29,a.tmps.getD 30 undef=g30,a.tmps.getD 31 undef=g31,a.tmps.getD 32 undef=g32,a.tmps.getD 33 undef=g33,a.tmps.getD 34 undef=g34,a.tmps.getD 35 undef=g35,a.tmps.getD 36 undef=g36,a.tmps.getD 37 undef=g37 at ep
   simp only[Act.put,List.setIfInBounds_toArray,List.set_cons_succ,List.set_cons_zero] at ep
   subst ep
   clear q5 bW1 hbo
   go_wp2
   go_roundw
   case rel=>exact⟨k+1,by omega,by go_num,bW2,_,hta⟩
   case measure=>simp[intOf];omega
  ·have e:k=ml:=by omega
   subst e
   have el:m.ln=k:=HL.out.2
   obtain⟨L',rfl,nw⟩:=TA.new (m:=m) (by rw[el];exact tL)
   have qb':=qb.kept hbr
   have qa':=qa.kept hbr
   have lt1:=qa.lt
   have lt2:=qb.lt
   obtain⟨b0,b1,b2⟩:=qb'.c3
   obtain⟨z0,z1,z2⟩:=qa'.o3
   -- the layers are laid into the adapter,and that into the result
   have qa2:Blk 30 (WR.setCell ⟨w.heap.size,2,none⟩ (L'.w)) w.heap.size #[I4 R,I4 S,L'.w]:=Qa4 qa' 2 _ rfl
   have qb2:Blk 30 (WR.setCell ⟨w.heap.size,2,none⟩ (L'.w)) (w.heap.size+1) #[I4 0,I4 0,nilS]:=qb'.other _ (by simp)
   have on2:=Only.set w.heap.size 2 WR (L'.w)
   obtain⟨V,eV⟩:∃ V,WR.setCell ⟨w.heap.size,2,none⟩ (L'.w)=V:=⟨_,rfl⟩
   rw[eV] at qa2 qb2 on2
   have bV2:Bw w V:=Only.below hbw nL hbw.size on2
   obtain⟨d0,d1,d2⟩:=qa2.c3
   obtain⟨f0,f1,f2⟩:=qb2.c3
   obtain⟨o0,o1,o2⟩:=qb2.o3
   clear tL b0 b1 b2
   unfold SL.v
   go_wp2
   obtain⟨W6,eW6,q6,only,hz⟩:=set3 qb2 (I4 R) (I4 S) (L'.w)
   rw[eW6]
   refine bodyPost_ret (v:=.agg #[I4 R,I4 S,L'.w]) ?_ rfl ⟨L',Y',rfl,((nw.only on2 lt1).only only lt2).le (by omega),Only.below bV2 (Nat.le_succ _) bV2.size only⟩
   obtain⟨y0,y1,y2⟩:=q6.c3
   simp[results,Tryz.results10,go_sem,y0,y1,y2]
theorem Qfv (R S:Int)(L:SL)(Y:Nat→Nat→SL)(m:AdV)(w:World)(hM:AdAt w L Y m)(hF:QlK m) :
  Calls Tryz.prog 10 #[.agg #[I4 R,I4 S,L.w]] w fun e w'=>∃ (L':SL) (Y':Nat→Nat→SL),e=.returned (.agg #[I4 R,I4 S,L'.w])∧NewA w.heap.size w' L' Y' m∧Bw w w' :=
 QjF R S L.a L.n L.c L Y m w hM hF rfl hM.len.symm
end
theorem QiG {w:World}{cb:Nat}{d h l v u x t n:Int}(q:Blk 23 w cb (c8 d h l v u x t n)):(Instr.fieldAt 23 (Pt cb) 5).run Tryz.prog w=.ok (.pointer (some ⟨cb,5,none⟩)) w∧(Instr.loadAt 3 (.pointer (some ⟨cb,5,none⟩))).run Tryz.prog w=.ok (I4 x) w:=by
 obtain⟨c0,c1,c2,c3,c4,c5,c6,c7⟩:=q.cfg
 constructor
 ·go_simp
 ·go_simp
theorem QbO (x y:Int)(w:World):(binOp .eql 3 (I4 x) (I4 y)).run Tryz.prog w=.ok (.bool (x==y)) w:=by go_simp
theorem Qbo {ρ:Operand→Value}{o:Oper}{p t:Nat}{a:Option Addr}{n c:Nat}(ht:t=24∨t=63)(e3:o.op=.call { callee:=.builtin .len,args:=#[.tmp p],argTypes:=#[t] })(hv:ρ (.tmp p)=.slice a n c)(w:World):(execOp ρ o).run Tryz.prog w=.ok (.value (I4 (n:Int))) w:=by
 rcases ht with rfl|rfl
 ·simp[execOp,e3,resolve,invoke,builtin,hv]
  go_simp
 ·simp[execOp,e3,resolve,invoke,builtin,hv]
  go_simp
def bk (c:Nat→Bool):Nat→Bool
 | 0=>c 0
 | j+1=>bk c j && c (j+1)
theorem Qhl {c:Nat→Bool}:∀ {j:Nat},bk c j=true↔∀ i,i≤j→c i=true
 | 0=>⟨fun h i hi=>by rw[show i=0 by omega];exact h,fun h=>h 0 nL⟩
 | j+1=>by
  show (bk c j && c (j+1))=true↔_
  rw[Bool.and_eq_true,Qhl]
  exact⟨fun h i hi=>(Nat.lt_or_ge i (j+1)).elim (fun k=>h.1 i (by omega)) (fun k=>by rw[show i=j+1 by omega];exact h.2),fun h=>⟨fun i hi=>h i (by omega),h _ nL⟩⟩
theorem QfA {P:Program}{ops:Array Oper}{Q:Exit→Act→World→Prop}{id:Nat}{a:Act}{w:World}(I:Nat→Act→World→Prop)(h0:I 0 a w)
  (step:∀ i o a w,ops[i]? = some o→I i a w→wpOp P ops Q i (I (i+1)) a w) (fin:∀ a w,I ops.size a w→Q .normal a w):(Code.region id ops false).wp P Q a w:=by
 refine wp_region ?_
 rw[List.range_eq_range']
 have key:∀ n i a w,i+n=ops.size→I i a w→wpOps P ops Q (List.range' i n) a w:=by
  intro n
  induction n with
  | zero =>
   intro i a w h hI
   rw[Nat.add_zero] at h
   rw[h] at hI
   simpa [wpOps] using fin a w hI
  | succ n ih =>
   intro i a w h hI
   rw[List.range'_succ,wpOps_cons]
   have hi:i<ops.size:=by omega
   exact wpOp_mono (fun a' w' hI'=>ih (i+1) a' w' (by omega) hI') (step i ops[i] a w (by simp[hi]) hI)
 exact key _ 0 a w (by omega) h0
theorem wGu {P:Program}{ops:Array Oper}{Q:Exit→Act→World→Prop}{i gi p:Nat}{o og:Oper}{a:Act}{w:World}{b:Bool}{v:Value}{K:Act→World→Prop}(ho:ops[i]? = some o)(hg:o.guard=some (gi,true))(hgo:ops[gi]? = some og)(hgd:og.dst=some p)(hp:p<a.tmps.size)(hb:a.tmps.getD p undef=.bool b)
  (h1:b=true→(execOp a.eval o).run P w=.ok (.value v) w∧K (a.put o.dst v) w) (h2:b=false→K (a.put o.dst undef) w):wpOp P ops Q i K a w:=by
 have hy:yielded ops a.tmps gi=some b:=by
  unfold yielded
  rw[hgo]
  simp only[Option.bind_some,hgd]
  rw[Array.getD_eq_getD_getElem?] at hb
  rw[Array.getElem?_eq_getElem hp] at hb ⊢
  simp only[Option.getD_some] at hb
  rw[hb]
 unfold wpOp
 simp only[ho]
 cases b with
 | true =>
  have hw:Region.wanted o (yielded ops a.tmps)=true:=by simp[Region.wanted,hg,hy]
  rw[if_pos hw]
  obtain⟨hr,hK⟩:=h1 rfl
  refine .inl ?_
  unfold Oper.wp
  rw[hr]
  exact hK
 | false =>
  have hw:¬Region.wanted o (yielded ops a.tmps)=true:=by simp[Region.wanted,hg,hy]
  rw[if_neg hw]
  exact h2 rfl
def lyT:List (Option Nat × Op × Option (Nat × Bool)):=[(some 68,.fieldAddr 65 (.tmp 8) 0,none),(some 69,.load 24 (.tmp 68),none),(some 70,.call { callee:=.builtin .len,args:=#[.tmp 69],argTypes:=#[24] },none),(some 71,.move (.tmp 4),none),(some 72,.binOp .eql 3 (.tmp 70) (.tmp 71) 3,none),(some 73,.move (.tmp 72),none),(some 74,.fieldAddr 65 (.tmp 8) 1,some (5,true)),(some 75,.load 24 (.tmp 74),some (5,true)),(some 76,.call { callee:=.builtin .len,args:=#[.tmp 75],argTypes:=#[24] },some (5,true)),(some 77,.move (.tmp 4),some (5,true)),(some 78,.move (.tmp 4),some (5,true)),(some 79,.binOp .mul 3 (.tmp 77) (.tmp 78) 3,some (5,true)),(some 80,.binOp .eql 3 (.tmp 76) (.tmp 79) 3,some (5,true)),(some 81,.pick (.tmp 73) (.tmp 80) (.const (.bool false)),none),(some 82,.move (.tmp 81),none),(some 83,.fieldAddr 65 (.tmp 8) 2,some (14,true)),(some 84,.load 24 (.tmp 83),some (14,true)),(some 85,.call { callee:=.builtin .len,args:=#[.tmp 84],argTypes:=#[24] },some (14,true)),(some 86,.move (.tmp 4),some (14,true)),(some 87,.move (.tmp 4),some (14,true)),(some 88,.binOp .mul 3 (.tmp 86) (.tmp 87) 3,some (14,true)),(some 89,.binOp .eql 3 (.tmp 85) (.tmp 88) 3,some (14,true)),(some 90,.pick (.tmp 82) (.tmp 89) (.const (.bool false)),none),(some 91,.move (.tmp 90),none),(some 92,.fieldAddr 65 (.tmp 8) 3,some (23,true)),(some 93,.load 24 (.tmp 92),some (23,true)),(some 94,.call { callee:=.builtin .len,args:=#[.tmp 93],argTypes:=#[24] },some (23,true)),(some 95,.move (.tmp 4),some (23,true)),(some 96,.move (.tmp 4),some (23,true)),(some 97,.binOp .mul 3 (.tmp 95) (.tmp 96) 3,some (23,true)),(some 98,.binOp .eql 3 (.tmp 94) (.tmp 97) 3,some (23,true)),(some 99,.pick (.tmp 91) (.tmp 98) (.const (.bool false)),none),(some 100,.move (.tmp 99),none),(some 101,.fieldAddr 65 (.tmp 8) 4,some (32,true)),(some 102,.load 24 (.tmp 101),some (32,true)),(some 103,.call { callee:=.builtin .len,args:=#[.tmp 102],argTypes:=#[24] },some (32,true)),(some 104,.move (.tmp 4),some (32,true)),(some 105,.move (.tmp 4),some (32,true)),(some 106,.binOp .mul 3 (.tmp 104) (.tmp 105) 3,some (32,true)),(some 107,.binOp .eql 3 (.tmp 103) (.tmp 106) 3,some (32,true)),(some 108,.pick (.tmp 100) (.tmp 107) (.const (.bool false)),none),(some 109,.move (.tmp 108),none),(some 110,.fieldAddr 65 (.tmp 8) 5,some (41,true)),(some 111,.load 24 (.tmp 110),some (41,true)),(some 112,.call { callee:=.builtin .len,args:=#[.tmp 111],argTypes:=#[24] },some (41,true)),(some 113,.move (.tmp 4),some (41,true)),(some 114,.binOp .eql 3 (.tmp 112) (.tmp 113) 3,some (41,true)),(some 115,.pick (.tmp 109) (.tmp 114) (.const (.bool false)),none),(some 116,.move (.tmp 115),none),(some 117,.fieldAddr 65 (.tmp 8) 6,some (48,true)),(some 118,.load 24 (.tmp 117),some (48,true)),(some 119,.call { callee:=.builtin .len,args:=#[.tmp 118],argTypes:=#[24] },some (48,true)),(some 120,.fieldAddr 23 (.tmp 3) 5,some (48,true)),(some 121,.load 3 (.tmp 120),some (48,true)),(some 122,.move (.tmp 4),some (48,true)),(some 123,.binOp .mul 3 (.tmp 121) (.tmp 122) 3,some (48,true)),(some 124,.binOp .eql 3 (.tmp 119) (.tmp 123) 3,some (48,true)),(some 125,.pick (.tmp 116) (.tmp 124) (.const (.bool false)),none),(some 126,.move (.tmp 125),none),(some 127,.fieldAddr 65 (.tmp 8) 7,some (58,true)),(some 128,.load 63 (.tmp 127),some (58,true)),(some 129,.call { callee:=.builtin .len,args:=#[.tmp 128],argTypes:=#[63] },some (58,true)),(some 130,.move (.tmp 6),some (58,true)),(some 131,.binOp .eql 3 (.tmp 129) (.tmp 130) 3,some (58,true)),(some 132,.pick (.tmp 126) (.tmp 131) (.const (.bool false)),none),(some 133,.move (.tmp 132),none),(some 134,.fieldAddr 65 (.tmp 8) 8,some (65,true)),(some 135,.load 63 (.tmp 134),some (65,true)),(some 136,.call { callee:=.builtin .len,args:=#[.tmp 135],argTypes:=#[63] },some (65,true)),(some 137,.move (.tmp 6),some (65,true)),(some 138,.binOp .eql 3 (.tmp 136) (.tmp 137) 3,some (65,true)),(some 139,.pick (.tmp 133) (.tmp 138) (.const (.bool false)),none),(some 5,.assign (.tmp 139),none)]
def lyD (i:Nat):Option Nat:=match i with|0=>some 68|1=>some 69|2=>some 70|3=>some 71|4=>some 72|5=>some 73|6=>some 74|7=>some 75|8=>some 76|9=>some 77|10=>some 78|11=>some 79|12=>some 80|13=>some 81|14=>some 82|15=>some 83|16=>some 84|17=>some 85|18=>some 86|19=>some 87|20=>some 88|21=>some 89|22=>some 90|23=>some 91|24=>some 92|25=>some 93|26=>some 94|27=>some 95|28=>some 96|29=>some 97|30=>some 98|31=>some 99|32=>some 100|33=>some 101|34=>some 102|35=>some 103|36=>some 104|37=>some 105|38=>some 106|39=>some 107|40=>some 108|41=>some 109|42=>some 110|43=>some 111|44=>some 112|45=>some 113|46=>some 114|47=>some 115|48=>some 116|49=>some 117|50=>some 118|51=>some 119|52=>some 120|53=>some 121|54=>some 122|55=>some 123|56=>some 124|57=>some 125|58=>some 126|59=>some 127|60=>some 128|61=>some 129|62=>some 130|63=>some 131|64=>some 132|65=>some 133|66=>some 134|67=>some 135|68=>some 136|69=>some 137|70=>some 138|71=>some 139|72=>some 5|_=>none
theorem Qni:∀ i,i<73→∀ j,j<73→lyD i=lyD j→lyD i≠none→i=j:=by decide
def lyF (D DD XD:Nat)(NE x:Int)(cb lb:Nat)(Y:Nat→SL)(c:Nat→Bool)(w0:World)(i:Nat)(q:Value):Prop:=match i with
 | 0=>q=Pt lb
 | 1=>q=(Y 0).w
 | 2=>q=I4 ((Y 0).n:Int)
 | 3=>q=I4 (D:Int)
 | 4=>q=.bool (c 0)
 | 5=>q=.bool (bk c 0)
 | 6=>bk c 0=true→q=.pointer (some ⟨lb,1,none⟩)
 | 7=>bk c 0=true→q=(Y 1).w
 | 8=>bk c 0=true→q=I4 ((Y 1).n:Int)
 | 9=>bk c 0=true→q=I4 (D:Int)
 | 10=>bk c 0=true→q=I4 (D:Int)
 | 11=>bk c 0=true→q=I4 (DD:Int)
 | 12=>bk c 0=true→q=.bool (c 1)
 | 13=>q=.bool (bk c 1)
 | 14=>q=.bool (bk c 1)
 | 15=>bk c 1=true→q=.pointer (some ⟨lb,2,none⟩)
 | 16=>bk c 1=true→q=(Y 2).w
 | 17=>bk c 1=true→q=I4 ((Y 2).n:Int)
 | 18=>bk c 1=true→q=I4 (D:Int)
 | 19=>bk c 1=true→q=I4 (D:Int)
 | 20=>bk c 1=true→q=I4 (DD:Int)
 | 21=>bk c 1=true→q=.bool (c 2)
 | 22=>q=.bool (bk c 2)
 | 23=>q=.bool (bk c 2)
 | 24=>bk c 2=true→q=.pointer (some ⟨lb,3,none⟩)
 | 25=>bk c 2=true→q=(Y 3).w
 | 26=>bk c 2=true→q=I4 ((Y 3).n:Int)
 | 27=>bk c 2=true→q=I4 (D:Int)
 | 28=>bk c 2=true→q=I4 (D:Int)
 | 29=>bk c 2=true→q=I4 (DD:Int)
 | 30=>bk c 2=true→q=.bool (c 3)
 | 31=>q=.bool (bk c 3)
 | 32=>q=.bool (bk c 3)
 | 33=>bk c 3=true→q=.pointer (some ⟨lb,4,none⟩)
 | 34=>bk c 3=true→q=(Y 4).w
 | 35=>bk c 3=true→q=I4 ((Y 4).n:Int)
 | 36=>bk c 3=true→q=I4 (D:Int)
 | 37=>bk c 3=true→q=I4 (D:Int)
 | 38=>bk c 3=true→q=I4 (DD:Int)
 | 39=>bk c 3=true→q=.bool (c 4)
 | 40=>q=.bool (bk c 4)
 | 41=>q=.bool (bk c 4)
 | 42=>bk c 4=true→q=.pointer (some ⟨lb,5,none⟩)
 | 43=>bk c 4=true→q=(Y 5).w
 | 44=>bk c 4=true→q=I4 ((Y 5).n:Int)
 | 45=>bk c 4=true→q=I4 (D:Int)
 | 46=>bk c 4=true→q=.bool (c 5)
 | 47=>q=.bool (bk c 5)
 | 48=>q=.bool (bk c 5)
 | 49=>bk c 5=true→q=.pointer (some ⟨lb,6,none⟩)
 | 50=>bk c 5=true→q=(Y 6).w
 | 51=>bk c 5=true→q=I4 ((Y 6).n:Int)
 | 52=>bk c 5=true→q=.pointer (some ⟨cb,5,none⟩)
 | 53=>bk c 5=true→q=I4 x
 | 54=>bk c 5=true→q=I4 (D:Int)
 | 55=>bk c 5=true→q=I4 (XD:Int)
 | 56=>bk c 5=true→q=.bool (c 6)
 | 57=>q=.bool (bk c 6)
 | 58=>q=.bool (bk c 6)
 | 59=>bk c 6=true→q=.pointer (some ⟨lb,7,none⟩)
 | 60=>bk c 6=true→q=(Y 7).w
 | 61=>bk c 6=true→q=I4 ((Y 7).n:Int)
 | 62=>bk c 6=true→q=I4 NE
 | 63=>bk c 6=true→q=.bool (c 7)
 | 64=>q=.bool (bk c 7)
 | 65=>q=.bool (bk c 7)
 | 66=>bk c 7=true→q=.pointer (some ⟨lb,8,none⟩)
 | 67=>bk c 7=true→q=(Y 8).w
 | 68=>bk c 7=true→q=I4 ((Y 8).n:Int)
 | 69=>bk c 7=true→q=I4 NE
 | 70=>bk c 7=true→q=.bool (c 8)
 | 71=>q=.bool (bk c 8)
 | 72=>q=.bool (bk c 8)
 | _=>True
structure LyI (D DD XD:Nat) (NE x:Int) (cb lb:Nat) (Y:Nat→SL) (c:Nat→Bool) (w0:World) (a0:Act) (i:Nat) (a:Act) (w:World):Prop where
 size:a.tmps.size=a0.tmps.size
 defers:a.defers=a0.defers
 kept:∀ s,(∀ j,j<73→lyD j≠some s)→a.tmps.getD s undef=a0.tmps.getD s undef
 val:∀ j d,j<i→lyD j=some d→lyF D DD XD NE x cb lb Y c w0 j (a.tmps.getD d undef)
 w_:w=w0
theorem LyI.put {D DD XD:Nat}{NE x:Int}{cb lb:Nat}{Y:Nat→SL}{c:Nat→Bool}{w0:World}{a0:Act}{i:Nat}{a:Act}{w:World}{d:Nat}{v:Value}(h:LyI D DD XD NE x cb lb Y c w0 a0 i a w)(hi:i<73)(hD:lyD i=some d)(hd:d<a0.tmps.size)(hF:lyF D DD XD NE x cb lb Y c w0 i v):LyI D DD XD NE x cb lb Y c w0 a0 (i+1) (a.put (some d) v) w:=by
 have hd':d<a.tmps.size:=by rw[h.size];exact hd
 refine⟨by show (a.tmps.setIfInBounds d v).size=_;rw[Array.size_setIfInBounds];exact h.size,h.defers,fun s hs=>?_,fun j d' hj hDj=>?_,h.w_⟩
 ·rw[Qby a d v s hd',if_neg (fun e=>hs i hi (by rw[e];exact hD))]
  exact h.kept s hs
 ·rw[Qby a d v d' hd']
  by_cases e:j=i
  ·subst e
   obtain rfl:=Option.some.inj (hD.symm.trans hDj)
   rw[if_pos rfl]
   exact hF
  ·rw[if_neg (fun e'=>e (Qni j (by omega) i hi (by rw[hD,hDj,e']) (by rw[hDj];simp)))]
   exact h.val j d' (by omega) hDj
theorem LyI.vl {D DD XD:Nat}{NE x:Int}{cb lb:Nat}{Y:Nat→SL}{c:Nat→Bool}{w0:World}{a0:Act}{i:Nat}{a:Act}{w:World}(h:LyI D DD XD NE x cb lb Y c w0 a0 i a w)(j d:Nat)(hj:Nat.blt j i=true)(hD:lyD j=some d):lyF D DD XD NE x cb lb Y c w0 j (a.tmps.getD d undef):=h.val j d (Nat.le_of_ble_eq_true hj) hD
theorem QdS {id:Nat}{ops:Array Oper}{Q:Exit→Act→World→Prop}{a0:Act}{w0:World}(h l v u x t n:Int)(D DD XD:Nat)(NE:Int)(cb lb:Nat)(Y:Nat→SL)(c:Nat→Bool)(E N O:SL)(hT:ops.toList.map (fun o=>(o.dst,o.op,o.guard))=lyT)
  (m1:∀ w,(binOp .mul 3 (I4 (D:Int)) (I4 (D:Int))).run Tryz.prog w=.ok (I4 (DD:Int)) w) (m2:∀ w,(binOp .mul 3 (I4 x) (I4 (D:Int))).run Tryz.prog w=.ok (I4 (XD:Int)) w)
  (hc:c 0=(((Y 0).n:Int)==(D:Int))∧c 1=(((Y 1).n:Int)==(DD:Int))∧c 2=(((Y 2).n:Int)==(DD:Int))∧c 3=(((Y 3).n:Int)==(DD:Int))∧c 4=(((Y 4).n:Int)==(DD:Int))∧c 5=(((Y 5).n:Int)==(D:Int))∧c 6=(((Y 6).n:Int)==(XD:Int))∧c 7=(((Y 7).n:Int)==NE)∧c 8=(((Y 8).n:Int)==NE))
  (q59:Blk 65 w0 lb (y9 Y)) (q3:Blk 23 w0 cb #[I4 (D:Int),I4 h,I4 l,I4 v,I4 u,I4 x,I4 t,I4 n]) (h3:a0.tmps.getD 3 undef=Pt cb) (h4:a0.tmps.getD 4 undef=I4 (D:Int)) (h6:a0.tmps.getD 6 undef=I4 NE) (h8:a0.tmps.getD 8 undef=Pt lb) (hs:140≤a0.tmps.size)
  (fin:∀ a w,a.tmps.size=a0.tmps.size→a.defers=a0.defers→(∀ s,(∀ j,j<73→lyD j≠some s)→a.tmps.getD s undef=a0.tmps.getD s undef)→tm a 5=.bool (bk c 8)→w=w0→Q .normal a w):(Code.region id ops false).wp Tryz.prog Q a0 w0:=by
 obtain⟨k0,k1,k2,k3,k4,k5,k6,k7,k8⟩:=hc
 have hsz:ops.size=73:=by
  have:=congrArg List.length hT
  simpa [lyT] using this
 have OP:∀ (i:Nat) (e:Option Nat × Op × Option (Nat × Bool)),lyT[i]? = some e→∃ o:Oper,ops[i]? = some o∧o.dst=e.1∧o.op=e.2.1∧o.guard=e.2.2:=fun i e he=>by
  rw[←hT,List.getElem?_map] at he
  obtain⟨o,h1,h2⟩:=Option.map_eq_some_iff.1 he
  exact⟨o,by rw[←h1,Array.getElem?_toList],by rw[←h2],by rw[←h2],by rw[←h2]⟩
 refine QfA (LyI D DD XD NE x cb lb Y c w0 a0) ⟨rfl,rfl,(fun _ _=>rfl),(fun j d hj=>absurd hj (by omega)),rfl⟩ ?_ ?_
 ·intro i o a w ho hI
  have hi:i<73:=by rw[←hsz];exact (Array.getElem?_eq_some_iff.1 ho).1
  have ev:∀ (s:Nat),a.eval (.tmp s)=a.tmps.getD s undef:=fun _=>rfl
  have ke:∀ s,(∀ j,j<73→lyD j≠some s)→a.tmps.getD s undef=a0.tmps.getD s undef:=fun s hs=>hI.kept s hs
  have asz:=hI.size
  have ww:=hI.w_
  have qc:Blk 23 w cb #[I4 (D:Int),I4 h,I4 l,I4 v,I4 u,I4 x,I4 t,I4 n]:=by rw[ww];exact q3
  have qb:Blk 65 w lb (y9 Y):=by rw[ww];exact q59
  have OQ:∀ {j:Nat}{p:Oper}{d:Option Nat}{op:Op}{g:Option (Nat × Bool)},ops[j]? = some p→lyT[j]? = some (d,op,g)→p.dst=d∧p.op=op∧p.guard=g:=fun hp hj=>by
   obtain⟨o',e1,e2,e3,e4⟩:=OP _ _ hj
   obtain rfl:=Option.some.inj (hp.symm.trans e1)
   exact⟨e2,e3,e4⟩
  have un:∀ {d:Nat}{v:Value},o.dst=some d→o.guard=none→lyD i=some d→Nat.blt d 140=true→lyF D DD XD NE x cb lb Y c w0 i v→(execOp a.eval o).run Tryz.prog w=.ok (.value v) w→wpOp Tryz.prog ops Q i (fun a' w'=>LyI D DD XD NE x cb lb Y c w0 a0 (i+1) a' w') a w:=fun e2 e4 hD hd hF hr=>wVa ho e4 hr (by rw[e2];exact hI.put hi hD (by have:=Nat.le_of_ble_eq_true hd;omega) hF)
  have gd:∀ {d gi p:Nat}{b:Bool}{v:Value}{q:Op × Option (Nat × Bool)},o.dst=some d→o.guard=some (gi,true)→lyT[gi]? = some (some p,q)→lyD i=some d→a.tmps.getD p undef=.bool b→(Nat.blt d 140 && Nat.blt p 140)=true→(∀ u,(b=true→u=v)→lyF D DD XD NE x cb lb Y c w0 i u)→(b=true→(execOp a.eval o).run Tryz.prog w=.ok (.value v) w)→wpOp Tryz.prog ops Q i (fun a' w'=>LyI D DD XD NE x cb lb Y c w0 a0 (i+1) a' w') a w:=fun e2 e4 hg hD hb hd hF hr=>by
   obtain⟨og,g1,g2,_,_⟩:=OP _ _ hg
   rw[Bool.and_eq_true] at hd
   have d1:=Nat.le_of_ble_eq_true hd.1
   have d2:=Nat.le_of_ble_eq_true hd.2
   exact wGu ho e4 g1 g2 (by omega) hb (fun HB=>⟨hr HB,by rw[e2];exact hI.put hi hD (by omega) (hF _ fun _=>rfl)⟩) (fun HB=>by rw[e2];exact hI.put hi hD (by omega) (hF _ fun h=>by rw[HB] at h;cases h))
  rcases l73 (show i<73 by omega) with rfl|rfl|rfl|rfl|rfl|rfl|rfl|rfl|rfl|rfl|rfl|rfl|rfl|rfl|rfl|rfl|rfl|rfl|rfl|rfl|rfl|rfl|rfl|rfl|rfl|rfl|rfl|rfl|rfl|rfl|rfl|rfl|rfl|rfl|rfl|rfl|rfl|rfl|rfl|rfl|rfl|rfl|rfl|rfl|rfl|rfl|rfl|rfl|rfl|rfl|rfl|rfl|rfl|rfl|rfl|rfl|rfl|rfl|rfl|rfl|rfl|rfl|rfl|rfl|rfl|rfl|rfl|rfl|rfl|rfl|rfl|rfl|rfl
  ·obtain⟨e2,e3,e4⟩:=OQ ho rfl
   have V8:=(ke 8 (by decide)).trans h8
   refine un e2 e4 rfl rfl rfl ?_
   simp[execOp,e3,ev,V8,Qax lb 0 (by decide)]
  ·obtain⟨e2,e3,e4⟩:=OQ ho rfl
   have V68:tm a 68=_:=hI.vl 0 68 rfl rfl
   refine un e2 e4 rfl rfl rfl ?_
   simp[execOp,e3,ev,V68,Qag (qb.cell 0 rfl)]
  ·obtain⟨e2,e3,e4⟩:=OQ ho rfl
   have V69:tm a 69=_:=hI.vl 1 69 rfl rfl
   refine un e2 e4 rfl rfl rfl ?_
   exact Qbo (by decide) e3 V69 w
  ·obtain⟨e2,e3,e4⟩:=OQ ho rfl
   have V4:=(ke 4 (by decide)).trans h4
   refine un e2 e4 rfl rfl rfl ?_
   simp[execOp,e3,ev,V4]
  ·obtain⟨e2,e3,e4⟩:=OQ ho rfl
   have V70:tm a 70=_:=hI.vl 2 70 rfl rfl
   have V71:tm a 71=_:=hI.vl 3 71 rfl rfl
   refine un e2 e4 rfl rfl rfl ?_
   simp[execOp,e3,ev,V70,V71,eqGuard,QbO,k0]
  ·obtain⟨e2,e3,e4⟩:=OQ ho rfl
   have V72:tm a 72=_:=hI.vl 4 72 rfl rfl
   refine un e2 e4 rfl rfl rfl ?_
   simp[execOp,e3,ev,V72,show bk c 0=c 0 from rfl]
  ·obtain⟨e2,e3,e4⟩:=OQ ho rfl
   refine gd e2 e4 rfl rfl (hI.vl 5 73 rfl rfl) rfl (fun _ h=>h) fun HB=>?_
   have V8:=(ke 8 (by decide)).trans h8
   simp[execOp,e3,ev,V8,Qax lb 1 (by decide)]
  ·obtain⟨e2,e3,e4⟩:=OQ ho rfl
   refine gd e2 e4 rfl rfl (hI.vl 5 73 rfl rfl) rfl (fun _ h=>h) fun HB=>?_
   have V74:tm a 74=_:=hI.vl 6 74 rfl rfl HB
   simp[execOp,e3,ev,V74,Qag (qb.cell 1 rfl)]
  ·obtain⟨e2,e3,e4⟩:=OQ ho rfl
   refine gd e2 e4 rfl rfl (hI.vl 5 73 rfl rfl) rfl (fun _ h=>h) fun HB=>?_
   have V75:tm a 75=_:=hI.vl 7 75 rfl rfl HB
   exact Qbo (by decide) e3 V75 w
  ·obtain⟨e2,e3,e4⟩:=OQ ho rfl
   refine gd e2 e4 rfl rfl (hI.vl 5 73 rfl rfl) rfl (fun _ h=>h) fun HB=>?_
   have V4:=(ke 4 (by decide)).trans h4
   simp[execOp,e3,ev,V4]
  ·obtain⟨e2,e3,e4⟩:=OQ ho rfl
   refine gd e2 e4 rfl rfl (hI.vl 5 73 rfl rfl) rfl (fun _ h=>h) fun HB=>?_
   have V4:=(ke 4 (by decide)).trans h4
   simp[execOp,e3,ev,V4]
  ·obtain⟨e2,e3,e4⟩:=OQ ho rfl
   refine gd e2 e4 rfl rfl (hI.vl 5 73 rfl rfl) rfl (fun _ h=>h) fun HB=>?_
   have V77:tm a 77=_:=hI.vl 9 77 rfl rfl HB
   have V78:tm a 78=_:=hI.vl 10 78 rfl rfl HB
   simp[execOp,e3,ev,V77,V78,eqGuard,m1]
  ·obtain⟨e2,e3,e4⟩:=OQ ho rfl
   refine gd e2 e4 rfl rfl (hI.vl 5 73 rfl rfl) rfl (fun _ h=>h) fun HB=>?_
   have V76:tm a 76=_:=hI.vl 8 76 rfl rfl HB
   have V79:tm a 79=_:=hI.vl 11 79 rfl rfl HB
   simp[execOp,e3,ev,V76,V79,eqGuard,QbO,k1]
  ·obtain⟨e2,e3,e4⟩:=OQ ho rfl
   have V73:tm a 73=_:=hI.vl 5 73 rfl rfl
   refine un e2 e4 rfl rfl rfl ?_
   cases HB:bk c 0 with
   | true =>
    have V80:tm a 80=_:=hI.vl 12 80 rfl rfl HB
    simp[execOp,e3,ev,V73,V80,HB,asBool,show bk c 1=(bk c 0 && c 1) from rfl]
   | false =>
    simp[execOp,e3,ev,V73,HB,asBool,show bk c 1=(bk c 0 && c 1) from rfl,show a.eval (.const (.bool false))=.bool false from rfl]
  ·obtain⟨e2,e3,e4⟩:=OQ ho rfl
   have V81:tm a 81=_:=hI.vl 13 81 rfl rfl
   refine un e2 e4 rfl rfl rfl ?_
   simp[execOp,e3,ev,V81]
  ·obtain⟨e2,e3,e4⟩:=OQ ho rfl
   refine gd e2 e4 rfl rfl (hI.vl 14 82 rfl rfl) rfl (fun _ h=>h) fun HB=>?_
   have V8:=(ke 8 (by decide)).trans h8
   simp[execOp,e3,ev,V8,Qax lb 2 (by decide)]
  ·obtain⟨e2,e3,e4⟩:=OQ ho rfl
   refine gd e2 e4 rfl rfl (hI.vl 14 82 rfl rfl) rfl (fun _ h=>h) fun HB=>?_
   have V83:tm a 83=_:=hI.vl 15 83 rfl rfl HB
   simp[execOp,e3,ev,V83,Qag (qb.cell 2 rfl)]
  ·obtain⟨e2,e3,e4⟩:=OQ ho rfl
   refine gd e2 e4 rfl rfl (hI.vl 14 82 rfl rfl) rfl (fun _ h=>h) fun HB=>?_
   have V84:tm a 84=_:=hI.vl 16 84 rfl rfl HB
   exact Qbo (by decide) e3 V84 w
  ·obtain⟨e2,e3,e4⟩:=OQ ho rfl
   refine gd e2 e4 rfl rfl (hI.vl 14 82 rfl rfl) rfl (fun _ h=>h) fun HB=>?_
   have V4:=(ke 4 (by decide)).trans h4
   simp[execOp,e3,ev,V4]
  ·obtain⟨e2,e3,e4⟩:=OQ ho rfl
   refine gd e2 e4 rfl rfl (hI.vl 14 82 rfl rfl) rfl (fun _ h=>h) fun HB=>?_
   have V4:=(ke 4 (by decide)).trans h4
   simp[execOp,e3,ev,V4]
  ·obtain⟨e2,e3,e4⟩:=OQ ho rfl
   refine gd e2 e4 rfl rfl (hI.vl 14 82 rfl rfl) rfl (fun _ h=>h) fun HB=>?_
   have V86:tm a 86=_:=hI.vl 18 86 rfl rfl HB
   have V87:tm a 87=_:=hI.vl 19 87 rfl rfl HB
   simp[execOp,e3,ev,V86,V87,eqGuard,m1]
  ·obtain⟨e2,e3,e4⟩:=OQ ho rfl
   refine gd e2 e4 rfl rfl (hI.vl 14 82 rfl rfl) rfl (fun _ h=>h) fun HB=>?_
   have V85:tm a 85=_:=hI.vl 17 85 rfl rfl HB
   have V88:tm a 88=_:=hI.vl 20 88 rfl rfl HB
   simp[execOp,e3,ev,V85,V88,eqGuard,QbO,k2]
  ·obtain⟨e2,e3,e4⟩:=OQ ho rfl
   have V82:tm a 82=_:=hI.vl 14 82 rfl rfl
   refine un e2 e4 rfl rfl rfl ?_
   cases HB:bk c 1 with
   | true =>
    have V89:tm a 89=_:=hI.vl 21 89 rfl rfl HB
    simp[execOp,e3,ev,V82,V89,HB,asBool,show bk c 2=(bk c 1 && c 2) from rfl]
   | false =>
    simp[execOp,e3,ev,V82,HB,asBool,show bk c 2=(bk c 1 && c 2) from rfl,show a.eval (.const (.bool false))=.bool false from rfl]
  ·obtain⟨e2,e3,e4⟩:=OQ ho rfl
   have V90:tm a 90=_:=hI.vl 22 90 rfl rfl
   refine un e2 e4 rfl rfl rfl ?_
   simp[execOp,e3,ev,V90]
  ·obtain⟨e2,e3,e4⟩:=OQ ho rfl
   refine gd e2 e4 rfl rfl (hI.vl 23 91 rfl rfl) rfl (fun _ h=>h) fun HB=>?_
   have V8:=(ke 8 (by decide)).trans h8
   simp[execOp,e3,ev,V8,Qax lb 3 (by decide)]
  ·obtain⟨e2,e3,e4⟩:=OQ ho rfl
   refine gd e2 e4 rfl rfl (hI.vl 23 91 rfl rfl) rfl (fun _ h=>h) fun HB=>?_
   have V92:tm a 92=_:=hI.vl 24 92 rfl rfl HB
   simp[execOp,e3,ev,V92,Qag (qb.cell 3 rfl)]
  ·obtain⟨e2,e3,e4⟩:=OQ ho rfl
   refine gd e2 e4 rfl rfl (hI.vl 23 91 rfl rfl) rfl (fun _ h=>h) fun HB=>?_
   have V93:tm a 93=_:=hI.vl 25 93 rfl rfl HB
   exact Qbo (by decide) e3 V93 w
  ·obtain⟨e2,e3,e4⟩:=OQ ho rfl
   refine gd e2 e4 rfl rfl (hI.vl 23 91 rfl rfl) rfl (fun _ h=>h) fun HB=>?_
   have V4:=(ke 4 (by decide)).trans h4
   simp[execOp,e3,ev,V4]
  ·obtain⟨e2,e3,e4⟩:=OQ ho rfl
   refine gd e2 e4 rfl rfl (hI.vl 23 91 rfl rfl) rfl (fun _ h=>h) fun HB=>?_
   have V4:=(ke 4 (by decide)).trans h4
   simp[execOp,e3,ev,V4]
  ·obtain⟨e2,e3,e4⟩:=OQ ho rfl
   refine gd e2 e4 rfl rfl (hI.vl 23 91 rfl rfl) rfl (fun _ h=>h) fun HB=>?_
   have V95:tm a 95=_:=hI.vl 27 95 rfl rfl HB
   have V96:tm a 96=_:=hI.vl 28 96 rfl rfl HB
   simp[execOp,e3,ev,V95,V96,eqGuard,m1]
  ·obtain⟨e2,e3,e4⟩:=OQ ho rfl
   refine gd e2 e4 rfl rfl (hI.vl 23 91 rfl rfl) rfl (fun _ h=>h) fun HB=>?_
   have V94:tm a 94=_:=hI.vl 26 94 rfl rfl HB
   have V97:tm a 97=_:=hI.vl 29 97 rfl rfl HB
   simp[execOp,e3,ev,V94,V97,eqGuard,QbO,k3]
  ·obtain⟨e2,e3,e4⟩:=OQ ho rfl
   have V91:tm a 91=_:=hI.vl 23 91 rfl rfl
   refine un e2 e4 rfl rfl rfl ?_
   cases HB:bk c 2 with
   | true =>
    have V98:tm a 98=_:=hI.vl 30 98 rfl rfl HB
    simp[execOp,e3,ev,V91,V98,HB,asBool,show bk c 3=(bk c 2 && c 3) from rfl]
   | false =>
    simp[execOp,e3,ev,V91,HB,asBool,show bk c 3=(bk c 2 && c 3) from rfl,show a.eval (.const (.bool false))=.bool false from rfl]
  ·obtain⟨e2,e3,e4⟩:=OQ ho rfl
   have V99:tm a 99=_:=hI.vl 31 99 rfl rfl
   refine un e2 e4 rfl rfl rfl ?_
   simp[execOp,e3,ev,V99]
  ·obtain⟨e2,e3,e4⟩:=OQ ho rfl
   refine gd e2 e4 rfl rfl (hI.vl 32 100 rfl rfl) rfl (fun _ h=>h) fun HB=>?_
   have V8:=(ke 8 (by decide)).trans h8
   simp[execOp,e3,ev,V8,Qax lb 4 (by decide)]
  ·obtain⟨e2,e3,e4⟩:=OQ ho rfl
   refine gd e2 e4 rfl rfl (hI.vl 32 100 rfl rfl) rfl (fun _ h=>h) fun HB=>?_
   have V101:tm a 101=_:=hI.vl 33 101 rfl rfl HB
   simp[execOp,e3,ev,V101,Qag (qb.cell 4 rfl)]
  ·obtain⟨e2,e3,e4⟩:=OQ ho rfl
   refine gd e2 e4 rfl rfl (hI.vl 32 100 rfl rfl) rfl (fun _ h=>h) fun HB=>?_
   have V102:tm a 102=_:=hI.vl 34 102 rfl rfl HB
   exact Qbo (by decide) e3 V102 w
  ·obtain⟨e2,e3,e4⟩:=OQ ho rfl
   refine gd e2 e4 rfl rfl (hI.vl 32 100 rfl rfl) rfl (fun _ h=>h) fun HB=>?_
   have V4:=(ke 4 (by decide)).trans h4
   simp[execOp,e3,ev,V4]
  ·obtain⟨e2,e3,e4⟩:=OQ ho rfl
   refine gd e2 e4 rfl rfl (hI.vl 32 100 rfl rfl) rfl (fun _ h=>h) fun HB=>?_
   have V4:=(ke 4 (by decide)).trans h4
   simp[execOp,e3,ev,V4]
  ·obtain⟨e2,e3,e4⟩:=OQ ho rfl
   refine gd e2 e4 rfl rfl (hI.vl 32 100 rfl rfl) rfl (fun _ h=>h) fun HB=>?_
   have V104:tm a 104=_:=hI.vl 36 104 rfl rfl HB
   have V105:tm a 105=_:=hI.vl 37 105 rfl rfl HB
   simp[execOp,e3,ev,V104,V105,eqGuard,m1]
  ·obtain⟨e2,e3,e4⟩:=OQ ho rfl
   refine gd e2 e4 rfl rfl (hI.vl 32 100 rfl rfl) rfl (fun _ h=>h) fun HB=>?_
   have V103:tm a 103=_:=hI.vl 35 103 rfl rfl HB
   have V106:tm a 106=_:=hI.vl 38 106 rfl rfl HB
   simp[execOp,e3,ev,V103,V106,eqGuard,QbO,k4]
  ·obtain⟨e2,e3,e4⟩:=OQ ho rfl
   have V100:tm a 100=_:=hI.vl 32 100 rfl rfl
   refine un e2 e4 rfl rfl rfl ?_
   cases HB:bk c 3 with
   | true =>
    have V107:tm a 107=_:=hI.vl 39 107 rfl rfl HB
    simp[execOp,e3,ev,V100,V107,HB,asBool,show bk c 4=(bk c 3 && c 4) from rfl]
   | false =>
    simp[execOp,e3,ev,V100,HB,asBool,show bk c 4=(bk c 3 && c 4) from rfl,show a.eval (.const (.bool false))=.bool false from rfl]
  ·obtain⟨e2,e3,e4⟩:=OQ ho rfl
   have V108:tm a 108=_:=hI.vl 40 108 rfl rfl
   refine un e2 e4 rfl rfl rfl ?_
   simp[execOp,e3,ev,V108]
  ·obtain⟨e2,e3,e4⟩:=OQ ho rfl
   refine gd e2 e4 rfl rfl (hI.vl 41 109 rfl rfl) rfl (fun _ h=>h) fun HB=>?_
   have V8:=(ke 8 (by decide)).trans h8
   simp[execOp,e3,ev,V8,Qax lb 5 (by decide)]
  ·obtain⟨e2,e3,e4⟩:=OQ ho rfl
   refine gd e2 e4 rfl rfl (hI.vl 41 109 rfl rfl) rfl (fun _ h=>h) fun HB=>?_
   have V110:tm a 110=_:=hI.vl 42 110 rfl rfl HB
   simp[execOp,e3,ev,V110,Qag (qb.cell 5 rfl)]
  ·obtain⟨e2,e3,e4⟩:=OQ ho rfl
   refine gd e2 e4 rfl rfl (hI.vl 41 109 rfl rfl) rfl (fun _ h=>h) fun HB=>?_
   have V111:tm a 111=_:=hI.vl 43 111 rfl rfl HB
   exact Qbo (by decide) e3 V111 w
  ·obtain⟨e2,e3,e4⟩:=OQ ho rfl
   refine gd e2 e4 rfl rfl (hI.vl 41 109 rfl rfl) rfl (fun _ h=>h) fun HB=>?_
   have V4:=(ke 4 (by decide)).trans h4
   simp[execOp,e3,ev,V4]
  ·obtain⟨e2,e3,e4⟩:=OQ ho rfl
   refine gd e2 e4 rfl rfl (hI.vl 41 109 rfl rfl) rfl (fun _ h=>h) fun HB=>?_
   have V112:tm a 112=_:=hI.vl 44 112 rfl rfl HB
   have V113:tm a 113=_:=hI.vl 45 113 rfl rfl HB
   simp[execOp,e3,ev,V112,V113,eqGuard,QbO,k5]
  ·obtain⟨e2,e3,e4⟩:=OQ ho rfl
   have V109:tm a 109=_:=hI.vl 41 109 rfl rfl
   refine un e2 e4 rfl rfl rfl ?_
   cases HB:bk c 4 with
   | true =>
    have V114:tm a 114=_:=hI.vl 46 114 rfl rfl HB
    simp[execOp,e3,ev,V109,V114,HB,asBool,show bk c 5=(bk c 4 && c 5) from rfl]
   | false =>
    simp[execOp,e3,ev,V109,HB,asBool,show bk c 5=(bk c 4 && c 5) from rfl,show a.eval (.const (.bool false))=.bool false from rfl]
  ·obtain⟨e2,e3,e4⟩:=OQ ho rfl
   have V115:tm a 115=_:=hI.vl 47 115 rfl rfl
   refine un e2 e4 rfl rfl rfl ?_
   simp[execOp,e3,ev,V115]
  ·obtain⟨e2,e3,e4⟩:=OQ ho rfl
   refine gd e2 e4 rfl rfl (hI.vl 48 116 rfl rfl) rfl (fun _ h=>h) fun HB=>?_
   have V8:=(ke 8 (by decide)).trans h8
   simp[execOp,e3,ev,V8,Qax lb 6 (by decide)]
  ·obtain⟨e2,e3,e4⟩:=OQ ho rfl
   refine gd e2 e4 rfl rfl (hI.vl 48 116 rfl rfl) rfl (fun _ h=>h) fun HB=>?_
   have V117:tm a 117=_:=hI.vl 49 117 rfl rfl HB
   simp[execOp,e3,ev,V117,Qag (qb.cell 6 rfl)]
  ·obtain⟨e2,e3,e4⟩:=OQ ho rfl
   refine gd e2 e4 rfl rfl (hI.vl 48 116 rfl rfl) rfl (fun _ h=>h) fun HB=>?_
   have V118:tm a 118=_:=hI.vl 50 118 rfl rfl HB
   exact Qbo (by decide) e3 V118 w
  ·obtain⟨e2,e3,e4⟩:=OQ ho rfl
   refine gd e2 e4 rfl rfl (hI.vl 48 116 rfl rfl) rfl (fun _ h=>h) fun HB=>?_
   have V3:=(ke 3 (by decide)).trans h3
   simp[execOp,e3,ev,V3,(QiG qc).1]
  ·obtain⟨e2,e3,e4⟩:=OQ ho rfl
   refine gd e2 e4 rfl rfl (hI.vl 48 116 rfl rfl) rfl (fun _ h=>h) fun HB=>?_
   have V120:tm a 120=_:=hI.vl 52 120 rfl rfl HB
   simp[execOp,e3,ev,V120,(QiG qc).2]
  ·obtain⟨e2,e3,e4⟩:=OQ ho rfl
   refine gd e2 e4 rfl rfl (hI.vl 48 116 rfl rfl) rfl (fun _ h=>h) fun HB=>?_
   have V4:=(ke 4 (by decide)).trans h4
   simp[execOp,e3,ev,V4]
  ·obtain⟨e2,e3,e4⟩:=OQ ho rfl
   refine gd e2 e4 rfl rfl (hI.vl 48 116 rfl rfl) rfl (fun _ h=>h) fun HB=>?_
   have V121:tm a 121=_:=hI.vl 53 121 rfl rfl HB
   have V122:tm a 122=_:=hI.vl 54 122 rfl rfl HB
   simp[execOp,e3,ev,V121,V122,eqGuard,m2]
  ·obtain⟨e2,e3,e4⟩:=OQ ho rfl
   refine gd e2 e4 rfl rfl (hI.vl 48 116 rfl rfl) rfl (fun _ h=>h) fun HB=>?_
   have V119:tm a 119=_:=hI.vl 51 119 rfl rfl HB
   have V123:tm a 123=_:=hI.vl 55 123 rfl rfl HB
   simp[execOp,e3,ev,V119,V123,eqGuard,QbO,k6]
  ·obtain⟨e2,e3,e4⟩:=OQ ho rfl
   have V116:tm a 116=_:=hI.vl 48 116 rfl rfl
   refine un e2 e4 rfl rfl rfl ?_
   cases HB:bk c 5 with
   | true =>
    have V124:tm a 124=_:=hI.vl 56 124 rfl rfl HB
    simp[execOp,e3,ev,V116,V124,HB,asBool,show bk c 6=(bk c 5 && c 6) from rfl]
   | false =>
    simp[execOp,e3,ev,V116,HB,asBool,show bk c 6=(bk c 5 && c 6) from rfl,show a.eval (.const (.bool false))=.bool false from rfl]
  ·obtain⟨e2,e3,e4⟩:=OQ ho rfl
   have V125:tm a 125=_:=hI.vl 57 125 rfl rfl
   refine un e2 e4 rfl rfl rfl ?_
   simp[execOp,e3,ev,V125]
  ·obtain⟨e2,e3,e4⟩:=OQ ho rfl
   refine gd e2 e4 rfl rfl (hI.vl 58 126 rfl rfl) rfl (fun _ h=>h) fun HB=>?_
   have V8:=(ke 8 (by decide)).trans h8
   simp[execOp,e3,ev,V8,Qax lb 7 (by decide)]
  ·obtain⟨e2,e3,e4⟩:=OQ ho rfl
   refine gd e2 e4 rfl rfl (hI.vl 58 126 rfl rfl) rfl (fun _ h=>h) fun HB=>?_
   have V127:tm a 127=_:=hI.vl 59 127 rfl rfl HB
   simp[execOp,e3,ev,V127,Qcw (qb.cell 7 rfl)]
  ·obtain⟨e2,e3,e4⟩:=OQ ho rfl
   refine gd e2 e4 rfl rfl (hI.vl 58 126 rfl rfl) rfl (fun _ h=>h) fun HB=>?_
   have V128:tm a 128=_:=hI.vl 60 128 rfl rfl HB
   exact Qbo (by decide) e3 V128 w
  ·obtain⟨e2,e3,e4⟩:=OQ ho rfl
   refine gd e2 e4 rfl rfl (hI.vl 58 126 rfl rfl) rfl (fun _ h=>h) fun HB=>?_
   have V6:=(ke 6 (by decide)).trans h6
   simp[execOp,e3,ev,V6]
  ·obtain⟨e2,e3,e4⟩:=OQ ho rfl
   refine gd e2 e4 rfl rfl (hI.vl 58 126 rfl rfl) rfl (fun _ h=>h) fun HB=>?_
   have V129:tm a 129=_:=hI.vl 61 129 rfl rfl HB
   have V130:tm a 130=_:=hI.vl 62 130 rfl rfl HB
   simp[execOp,e3,ev,V129,V130,eqGuard,QbO,k7]
  ·obtain⟨e2,e3,e4⟩:=OQ ho rfl
   have V126:tm a 126=_:=hI.vl 58 126 rfl rfl
   refine un e2 e4 rfl rfl rfl ?_
   cases HB:bk c 6 with
   | true =>
    have V131:tm a 131=_:=hI.vl 63 131 rfl rfl HB
    simp[execOp,e3,ev,V126,V131,HB,asBool,show bk c 7=(bk c 6 && c 7) from rfl]
   | false =>
    simp[execOp,e3,ev,V126,HB,asBool,show bk c 7=(bk c 6 && c 7) from rfl,show a.eval (.const (.bool false))=.bool false from rfl]
  ·obtain⟨e2,e3,e4⟩:=OQ ho rfl
   have V132:tm a 132=_:=hI.vl 64 132 rfl rfl
   refine un e2 e4 rfl rfl rfl ?_
   simp[execOp,e3,ev,V132]
  ·obtain⟨e2,e3,e4⟩:=OQ ho rfl
   refine gd e2 e4 rfl rfl (hI.vl 65 133 rfl rfl) rfl (fun _ h=>h) fun HB=>?_
   have V8:=(ke 8 (by decide)).trans h8
   simp[execOp,e3,ev,V8,Qax lb 8 (by decide)]
  ·obtain⟨e2,e3,e4⟩:=OQ ho rfl
   refine gd e2 e4 rfl rfl (hI.vl 65 133 rfl rfl) rfl (fun _ h=>h) fun HB=>?_
   have V134:tm a 134=_:=hI.vl 66 134 rfl rfl HB
   simp[execOp,e3,ev,V134,Qcw (qb.cell 8 rfl)]
  ·obtain⟨e2,e3,e4⟩:=OQ ho rfl
   refine gd e2 e4 rfl rfl (hI.vl 65 133 rfl rfl) rfl (fun _ h=>h) fun HB=>?_
   have V135:tm a 135=_:=hI.vl 67 135 rfl rfl HB
   exact Qbo (by decide) e3 V135 w
  ·obtain⟨e2,e3,e4⟩:=OQ ho rfl
   refine gd e2 e4 rfl rfl (hI.vl 65 133 rfl rfl) rfl (fun _ h=>h) fun HB=>?_
   have V6:=(ke 6 (by decide)).trans h6
   simp[execOp,e3,ev,V6]
  ·obtain⟨e2,e3,e4⟩:=OQ ho rfl
   refine gd e2 e4 rfl rfl (hI.vl 65 133 rfl rfl) rfl (fun _ h=>h) fun HB=>?_
   have V136:tm a 136=_:=hI.vl 68 136 rfl rfl HB
   have V137:tm a 137=_:=hI.vl 69 137 rfl rfl HB
   simp[execOp,e3,ev,V136,V137,eqGuard,QbO,k8]
  ·obtain⟨e2,e3,e4⟩:=OQ ho rfl
   have V133:tm a 133=_:=hI.vl 65 133 rfl rfl
   refine un e2 e4 rfl rfl rfl ?_
   cases HB:bk c 7 with
   | true =>
    have V138:tm a 138=_:=hI.vl 70 138 rfl rfl HB
    simp[execOp,e3,ev,V133,V138,HB,asBool,show bk c 8=(bk c 7 && c 8) from rfl]
   | false =>
    simp[execOp,e3,ev,V133,HB,asBool,show bk c 8=(bk c 7 && c 8) from rfl,show a.eval (.const (.bool false))=.bool false from rfl]
  ·obtain⟨e2,e3,e4⟩:=OQ ho rfl
   have V139:tm a 139=_:=hI.vl 71 139 rfl rfl
   refine un e2 e4 rfl rfl rfl ?_
   simp[execOp,e3,ev,V139]
 ·intro a w hI
  rw[hsz] at hI
  exact fin a w hI.size hI.defers hI.kept (hI.val 72 5 (by decide) rfl) hI.w_
end Go.Proofs.YthliomlmhfjhnaaGreat

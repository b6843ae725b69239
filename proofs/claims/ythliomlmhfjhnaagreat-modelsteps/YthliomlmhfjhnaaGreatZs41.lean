/- Texts put together. -/
import Derived.Test.YthliomlmhfjhnaaGreatZs31
namespace Go.Proofs.YthliomlmhfjhnaaGreat
set_option maxRecDepth 20000
set_option maxHeartbeats 16000000
open Go.ChangeShapes Go.WideShapes Go.ChangeAt Go.RowKit
set_option linter.unusedVariables false
set_option linter.unusedSimpArgs false
theorem run_cfg5 {w:World}{cb:Nat}{d h l v u x t n:Int}(q:Blk 23 w cb #[.int .i64 d,.int .i64 h,.int .i64 l,.int .i64 v,.int .i64 u,.int .i64 x,.int .i64 t,.int .i64 n]):(Instr.fieldAt 23 (.pointer (some ⟨cb,0,none⟩)) 5).run Tryz.prog w=.ok (.pointer (some ⟨cb,5,none⟩)) w∧(Instr.loadAt 3 (.pointer (some ⟨cb,5,none⟩))).run Tryz.prog w=.ok (.int .i64 x) w:=by
 obtain⟨c0,c1,c2,c3,c4,c5,c6,c7⟩:=q.cfg
 constructor
 ·go_simp
 ·go_simp
theorem run_eql (x y:Int)(w:World):(binOp .eql 3 (.int .i64 x) (.int .i64 y)).run Tryz.prog w=.ok (.bool (x==y)) w:=by go_simp
theorem exec_len {ρ:Operand→Value}{o:Oper}{p t:Nat}{a:Option Addr}{n c:Nat}(ht:t=24∨t=63)(e3:o.op=.call { callee:=.builtin .len,args:=#[.tmp p],argTypes:=#[t] })(hv:ρ (.tmp p)=.slice a n c)(w:World):(execOp ρ o).run Tryz.prog w=.ok (.value (.int .i64 (n:Int))) w:=by
 rcases ht with rfl|rfl
 ·simp[execOp,e3,resolve,invoke,builtin,hv]
  go_simp
 ·simp[execOp,e3,resolve,invoke,builtin,hv]
  go_simp
def bk (c:Nat→Bool):Nat→Bool
 | 0=>c 0
 | j+1=>bk c j && c (j+1)
theorem bk_all {c:Nat→Bool}:∀ {j:Nat},bk c j=true↔∀ i,i≤j→c i=true
 | 0=>⟨fun h i hi=>by rw[show i=0 by omega];exact h,fun h=>h 0 (Nat.le_refl _)⟩
 | j+1=>by
  show (bk c j && c (j+1))=true↔_
  rw[Bool.and_eq_true,bk_all]
  exact⟨fun h i hi=>(Nat.lt_or_ge i (j+1)).elim (fun k=>h.1 i (by omega)) (fun k=>by rw[show i=j+1 by omega];exact h.2),fun h=>⟨fun i hi=>h i (by omega),h _ (Nat.le_refl _)⟩⟩
theorem wp_region_seq {P:Program}{ops:Array Oper}{Q:Exit→Act→World→Prop}{id:Nat}{a:Act}{w:World}(I:Nat→Act→World→Prop)(h0:I 0 a w)
  (step:∀ i o a w,ops[i]? = some o→I i a w→wpOp P ops Q i (I (i+1)) a w) (fin:∀ a w,I ops.size a w→Q .normal a w):(Code.region id ops false).wp P Q a w:=by
 refine wp_region ?_
 rw[List.range_eq_range']
 have key:∀ n i a w,i+n=ops.size→I i a w→wpOps P ops Q (List.range' i n) a w:=by
  intro n
  induction n with
  | zero =>
   intro i a w h hI
   rw[Nat.add_zero] at h
   rw[h] at hI
   simpa [wpOps] using fin a w hI
  | succ n ih =>
   intro i a w h hI
   rw[List.range'_succ,wpOps_cons]
   have hi:i<ops.size:=by omega
   exact wpOp_mono (fun a' w' hI'=>ih (i+1) a' w' (by omega) hI') (step i ops[i] a w (by simp[hi]) hI)
 exact key _ 0 a w (by omega) h0
theorem wGu {P:Program}{ops:Array Oper}{Q:Exit→Act→World→Prop}{i gi p:Nat}{o og:Oper}{a:Act}{w:World}{b:Bool}{v:Value}{K:Act→World→Prop}(ho:ops[i]? = some o)(hg:o.guard=some (gi,true))(hgo:ops[gi]? = some og)(hgd:og.dst=some p)(hp:p<a.tmps.size)(hb:a.tmps.getD p undef=.bool b)
  (h1:b=true→(execOp a.eval o).run P w=.ok (.value v) w∧K (a.put o.dst v) w) (h2:b=false→K (a.put o.dst undef) w):wpOp P ops Q i K a w:=by
 have hy:yielded ops a.tmps gi=some b:=by
  unfold yielded
  rw[hgo]
  simp only[Option.bind_some,hgd]
  rw[Array.getD_eq_getD_getElem?] at hb
  rw[Array.getElem?_eq_getElem hp] at hb ⊢
  simp only[Option.getD_some] at hb
  rw[hb]
 unfold wpOp
 simp only[ho]
 cases b with
 | true =>
  have hw:Region.wanted o (yielded ops a.tmps)=true:=by simp[Region.wanted,hg,hy]
  rw[if_pos hw]
  obtain⟨hr,hK⟩:=h1 rfl
  refine .inl ?_
  unfold Oper.wp
  rw[hr]
  exact hK
 | false =>
  have hw:¬Region.wanted o (yielded ops a.tmps)=true:=by simp[Region.wanted,hg,hy]
  rw[if_neg hw]
  exact h2 rfl
def lyT:List (Option Nat × Op × Option (Nat × Bool)):=[(some 68,.fieldAddr 65 (.tmp 8) 0,none),(some 69,.load 24 (.tmp 68),none),(some 70,.call { callee:=.builtin .len,args:=#[.tmp 69],argTypes:=#[24] },none),(some 71,.move (.tmp 4),none),(some 72,.binOp .eql 3 (.tmp 70) (.tmp 71) 3,none),(some 73,.move (.tmp 72),none),(some 74,.fieldAddr 65 (.tmp 8) 1,some (5,true)),(some 75,.load 24 (.tmp 74),some (5,true)),(some 76,.call { callee:=.builtin .len,args:=#[.tmp 75],argTypes:=#[24] },some (5,true)),(some 77,.move (.tmp 4),some (5,true)),(some 78,.move (.tmp 4),some (5,true)),(some 79,.binOp .mul 3 (.tmp 77) (.tmp 78) 3,some (5,true)),(some 80,.binOp .eql 3 (.tmp 76) (.tmp 79) 3,some (5,true)),(some 81,.pick (.tmp 73) (.tmp 80) (.const (.bool false)),none),(some 82,.move (.tmp 81),none),(some 83,.fieldAddr 65 (.tmp 8) 2,some (14,true)),(some 84,.load 24 (.tmp 83),some (14,true)),(some 85,.call { callee:=.builtin .len,args:=#[.tmp 84],argTypes:=#[24] },some (14,true)),(some 86,.move (.tmp 4),some (14,true)),(some 87,.move (.tmp 4),some (14,true)),(some 88,.binOp .mul 3 (.tmp 86) (.tmp 87) 3,some (14,true)),(some 89,.binOp .eql 3 (.tmp 85) (.tmp 88) 3,some (14,true)),(some 90,.pick (.tmp 82) (.tmp 89) (.const (.bool false)),none),(some 91,.move (.tmp 90),none),(some 92,.fieldAddr 65 (.tmp 8) 3,some (23,true)),(some 93,.load 24 (.tmp 92),some (23,true)),(some 94,.call { callee:=.builtin .len,args:=#[.tmp 93],argTypes:=#[24] },some (23,true)),(some 95,.move (.tmp 4),some (23,true)),(some 96,.move (.tmp 4),some (23,true)),(some 97,.binOp .mul 3 (.tmp 95) (.tmp 96) 3,some (23,true)),(some 98,.binOp .eql 3 (.tmp 94) (.tmp 97) 3,some (23,true)),(some 99,.pick (.tmp 91) (.tmp 98) (.const (.bool false)),none),(some 100,.move (.tmp 99),none),(some 101,.fieldAddr 65 (.tmp 8) 4,some (32,true)),(some 102,.load 24 (.tmp 101),some (32,true)),(some 103,.call { callee:=.builtin .len,args:=#[.tmp 102],argTypes:=#[24] },some (32,true)),(some 104,.move (.tmp 4),some (32,true)),(some 105,.move (.tmp 4),some (32,true)),(some 106,.binOp .mul 3 (.tmp 104) (.tmp 105) 3,some (32,true)),(some 107,.binOp .eql 3 (.tmp 103) (.tmp 106) 3,some (32,true)),(some 108,.pick (.tmp 100) (.tmp 107) (.const (.bool false)),none),(some 109,.move (.tmp 108),none),(some 110,.fieldAddr 65 (.tmp 8) 5,some (41,true)),(some 111,.load 24 (.tmp 110),some (41,true)),(some 112,.call { callee:=.builtin .len,args:=#[.tmp 111],argTypes:=#[24] },some (41,true)),(some 113,.move (.tmp 4),some (41,true)),(some 114,.binOp .eql 3 (.tmp 112) (.tmp 113) 3,some (41,true)),(some 115,.pick (.tmp 109) (.tmp 114) (.const (.bool false)),none),(some 116,.move (.tmp 115),none),(some 117,.fieldAddr 65 (.tmp 8) 6,some (48,true)),(some 118,.load 24 (.tmp 117),some (48,true)),(some 119,.call { callee:=.builtin .len,args:=#[.tmp 118],argTypes:=#[24] },some (48,true)),(some 120,.fieldAddr 23 (.tmp 3) 5,some (48,true)),(some 121,.load 3 (.tmp 120),some (48,true)),(some 122,.move (.tmp 4),some (48,true)),(some 123,.binOp .mul 3 (.tmp 121) (.tmp 122) 3,some (48,true)),(some 124,.binOp .eql 3 (.tmp 119) (.tmp 123) 3,some (48,true)),(some 125,.pick (.tmp 116) (.tmp 124) (.const (.bool false)),none),(some 126,.move (.tmp 125),none),(some 127,.fieldAddr 65 (.tmp 8) 7,some (58,true)),(some 128,.load 63 (.tmp 127),some (58,true)),(some 129,.call { callee:=.builtin .len,args:=#[.tmp 128],argTypes:=#[63] },some (58,true)),(some 130,.move (.tmp 6),some (58,true)),(some 131,.binOp .eql 3 (.tmp 129) (.tmp 130) 3,some (58,true)),(some 132,.pick (.tmp 126) (.tmp 131) (.const (.bool false)),none),(some 133,.move (.tmp 132),none),(some 134,.fieldAddr 65 (.tmp 8) 8,some (65,true)),(some 135,.load 63 (.tmp 134),some (65,true)),(some 136,.call { callee:=.builtin .len,args:=#[.tmp 135],argTypes:=#[63] },some (65,true)),(some 137,.move (.tmp 6),some (65,true)),(some 138,.binOp .eql 3 (.tmp 136) (.tmp 137) 3,some (65,true)),(some 139,.pick (.tmp 133) (.tmp 138) (.const (.bool false)),none),(some 5,.assign (.tmp 139),none)]
def lyD (i:Nat):Option Nat:=match i with|0=>some 68|1=>some 69|2=>some 70|3=>some 71|4=>some 72|5=>some 73|6=>some 74|7=>some 75|8=>some 76|9=>some 77|10=>some 78|11=>some 79|12=>some 80|13=>some 81|14=>some 82|15=>some 83|16=>some 84|17=>some 85|18=>some 86|19=>some 87|20=>some 88|21=>some 89|22=>some 90|23=>some 91|24=>some 92|25=>some 93|26=>some 94|27=>some 95|28=>some 96|29=>some 97|30=>some 98|31=>some 99|32=>some 100|33=>some 101|34=>some 102|35=>some 103|36=>some 104|37=>some 105|38=>some 106|39=>some 107|40=>some 108|41=>some 109|42=>some 110|43=>some 111|44=>some 112|45=>some 113|46=>some 114|47=>some 115|48=>some 116|49=>some 117|50=>some 118|51=>some 119|52=>some 120|53=>some 121|54=>some 122|55=>some 123|56=>some 124|57=>some 125|58=>some 126|59=>some 127|60=>some 128|61=>some 129|62=>some 130|63=>some 131|64=>some 132|65=>some 133|66=>some 134|67=>some 135|68=>some 136|69=>some 137|70=>some 138|71=>some 139|72=>some 5|_=>none
theorem lyD_inj:∀ i,i<73→∀ j,j<73→lyD i=lyD j→lyD i≠none→i=j:=by decide
def lyF (D DD XD:Nat)(NE x:Int)(cb lb:Nat)(Y:Nat→SL)(c:Nat→Bool)(w0:World)(i:Nat)(q:Value):Prop:=match i with
 | 0=>q=.pointer (some ⟨lb,0,none⟩)
 | 1=>q=.slice (Y 0).a (Y 0).n (Y 0).c
 | 2=>q=.int .i64 ((Y 0).n:Int)
 | 3=>q=.int .i64 (D:Int)
 | 4=>q=.bool (c 0)
 | 5=>q=.bool (c 0)
 | 6=>bk c 0=true→q=.pointer (some ⟨lb,1,none⟩)
 | 7=>bk c 0=true→q=.slice (Y 1).a (Y 1).n (Y 1).c
 | 8=>bk c 0=true→q=.int .i64 ((Y 1).n:Int)
 | 9=>bk c 0=true→q=.int .i64 (D:Int)
 | 10=>bk c 0=true→q=.int .i64 (D:Int)
 | 11=>bk c 0=true→q=.int .i64 (DD:Int)
 | 12=>bk c 0=true→q=.bool (c 1)
 | 13=>q=.bool (bk c 1)
 | 14=>q=.bool (bk c 1)
 | 15=>bk c 1=true→q=.pointer (some ⟨lb,2,none⟩)
 | 16=>bk c 1=true→q=.slice (Y 2).a (Y 2).n (Y 2).c
 | 17=>bk c 1=true→q=.int .i64 ((Y 2).n:Int)
 | 18=>bk c 1=true→q=.int .i64 (D:Int)
 | 19=>bk c 1=true→q=.int .i64 (D:Int)
 | 20=>bk c 1=true→q=.int .i64 (DD:Int)
 | 21=>bk c 1=true→q=.bool (c 2)
 | 22=>q=.bool (bk c 2)
 | 23=>q=.bool (bk c 2)
 | 24=>bk c 2=true→q=.pointer (some ⟨lb,3,none⟩)
 | 25=>bk c 2=true→q=.slice (Y 3).a (Y 3).n (Y 3).c
 | 26=>bk c 2=true→q=.int .i64 ((Y 3).n:Int)
 | 27=>bk c 2=true→q=.int .i64 (D:Int)
 | 28=>bk c 2=true→q=.int .i64 (D:Int)
 | 29=>bk c 2=true→q=.int .i64 (DD:Int)
 | 30=>bk c 2=true→q=.bool (c 3)
 | 31=>q=.bool (bk c 3)
 | 32=>q=.bool (bk c 3)
 | 33=>bk c 3=true→q=.pointer (some ⟨lb,4,none⟩)
 | 34=>bk c 3=true→q=.slice (Y 4).a (Y 4).n (Y 4).c
 | 35=>bk c 3=true→q=.int .i64 ((Y 4).n:Int)
 | 36=>bk c 3=true→q=.int .i64 (D:Int)
 | 37=>bk c 3=true→q=.int .i64 (D:Int)
 | 38=>bk c 3=true→q=.int .i64 (DD:Int)
 | 39=>bk c 3=true→q=.bool (c 4)
 | 40=>q=.bool (bk c 4)
 | 41=>q=.bool (bk c 4)
 | 42=>bk c 4=true→q=.pointer (some ⟨lb,5,none⟩)
 | 43=>bk c 4=true→q=.slice (Y 5).a (Y 5).n (Y 5).c
 | 44=>bk c 4=true→q=.int .i64 ((Y 5).n:Int)
 | 45=>bk c 4=true→q=.int .i64 (D:Int)
 | 46=>bk c 4=true→q=.bool (c 5)
 | 47=>q=.bool (bk c 5)
 | 48=>q=.bool (bk c 5)
 | 49=>bk c 5=true→q=.pointer (some ⟨lb,6,none⟩)
 | 50=>bk c 5=true→q=.slice (Y 6).a (Y 6).n (Y 6).c
 | 51=>bk c 5=true→q=.int .i64 ((Y 6).n:Int)
 | 52=>bk c 5=true→q=.pointer (some ⟨cb,5,none⟩)
 | 53=>bk c 5=true→q=.int .i64 x
 | 54=>bk c 5=true→q=.int .i64 (D:Int)
 | 55=>bk c 5=true→q=.int .i64 (XD:Int)
 | 56=>bk c 5=true→q=.bool (c 6)
 | 57=>q=.bool (bk c 6)
 | 58=>q=.bool (bk c 6)
 | 59=>bk c 6=true→q=.pointer (some ⟨lb,7,none⟩)
 | 60=>bk c 6=true→q=.slice (Y 7).a (Y 7).n (Y 7).c
 | 61=>bk c 6=true→q=.int .i64 ((Y 7).n:Int)
 | 62=>bk c 6=true→q=.int .i64 NE
 | 63=>bk c 6=true→q=.bool (c 7)
 | 64=>q=.bool (bk c 7)
 | 65=>q=.bool (bk c 7)
 | 66=>bk c 7=true→q=.pointer (some ⟨lb,8,none⟩)
 | 67=>bk c 7=true→q=.slice (Y 8).a (Y 8).n (Y 8).c
 | 68=>bk c 7=true→q=.int .i64 ((Y 8).n:Int)
 | 69=>bk c 7=true→q=.int .i64 NE
 | 70=>bk c 7=true→q=.bool (c 8)
 | 71=>q=.bool (bk c 8)
 | 72=>q=.bool (bk c 8)
 | _=>True
structure LyI (D DD XD:Nat) (NE x:Int) (cb lb:Nat) (Y:Nat→SL) (c:Nat→Bool) (w0:World) (a0:Act) (i:Nat) (a:Act) (w:World):Prop where
 size:a.tmps.size=a0.tmps.size
 defers:a.defers=a0.defers
 kept:∀ s,(∀ j,j<73→lyD j≠some s)→a.tmps.getD s undef=a0.tmps.getD s undef
 val:∀ j d,j<i→lyD j=some d→lyF D DD XD NE x cb lb Y c w0 j (a.tmps.getD d undef)
 w_:w=w0
theorem LyI.put {D DD XD:Nat}{NE x:Int}{cb lb:Nat}{Y:Nat→SL}{c:Nat→Bool}{w0:World}{a0:Act}{i:Nat}{a:Act}{w:World}{d:Nat}{v:Value}(h:LyI D DD XD NE x cb lb Y c w0 a0 i a w)(hi:i<73)(hD:lyD i=some d)(hd:d<a0.tmps.size)(hF:lyF D DD XD NE x cb lb Y c w0 i v):LyI D DD XD NE x cb lb Y c w0 a0 (i+1) (a.put (some d) v) w:=by
 have hd':d<a.tmps.size:=by rw[h.size];exact hd
 refine⟨by show (a.tmps.setIfInBounds d v).size=_;rw[Array.size_setIfInBounds];exact h.size,h.defers,fun s hs=>?_,fun j d' hj hDj=>?_,h.w_⟩
 ·rw[get_put a d v s hd',if_neg (fun e=>hs i hi (by rw[e];exact hD))]
  exact h.kept s hs
 ·rw[get_put a d v d' hd']
  by_cases e:j=i
  ·subst e
   obtain rfl:=Option.some.inj (hD.symm.trans hDj)
   rw[if_pos rfl]
   exact hF
  ·rw[if_neg (fun e'=>e (lyD_inj j (by omega) i hi (by rw[hD,hDj,e']) (by rw[hDj];simp)))]
   exact h.val j d' (by omega) hDj
theorem layer_region {id:Nat}{ops:Array Oper}{Q:Exit→Act→World→Prop}{a0:Act}{w0:World}(h l v u x t n:Int)(D DD XD:Nat)(NE:Int)(cb lb:Nat)(Y:Nat→SL)(c:Nat→Bool)(E N O:SL)(hT:ops.toList.map (fun o=>(o.dst,o.op,o.guard))=lyT)
  (m1:∀ w,(binOp .mul 3 (.int .i64 (D:Int)) (.int .i64 (D:Int))).run Tryz.prog w=.ok (.int .i64 (DD:Int)) w) (m2:∀ w,(binOp .mul 3 (.int .i64 x) (.int .i64 (D:Int))).run Tryz.prog w=.ok (.int .i64 (XD:Int)) w)
  (hc:c 0=(((Y 0).n:Int)==(D:Int))∧c 1=(((Y 1).n:Int)==(DD:Int))∧c 2=(((Y 2).n:Int)==(DD:Int))∧c 3=(((Y 3).n:Int)==(DD:Int))∧c 4=(((Y 4).n:Int)==(DD:Int))∧c 5=(((Y 5).n:Int)==(D:Int))∧c 6=(((Y 6).n:Int)==(XD:Int))∧c 7=(((Y 7).n:Int)==NE)∧c 8=(((Y 8).n:Int)==NE))
  (q59:Blk 65 w0 lb #[.slice (Y 0).a (Y 0).n (Y 0).c,.slice (Y 1).a (Y 1).n (Y 1).c,.slice (Y 2).a (Y 2).n (Y 2).c,.slice (Y 3).a (Y 3).n (Y 3).c,.slice (Y 4).a (Y 4).n (Y 4).c,.slice (Y 5).a (Y 5).n (Y 5).c,.slice (Y 6).a (Y 6).n (Y 6).c,.slice (Y 7).a (Y 7).n (Y 7).c,.slice (Y 8).a (Y 8).n (Y 8).c]) (q3:Blk 23 w0 cb #[.int .i64 (D:Int),.int .i64 h,.int .i64 l,.int .i64 v,.int .i64 u,.int .i64 x,.int .i64 t,.int .i64 n]) (h3:a0.tmps.getD 3 undef=.pointer (some ⟨cb,0,none⟩)) (h4:a0.tmps.getD 4 undef=.int .i64 (D:Int)) (h6:a0.tmps.getD 6 undef=.int .i64 NE) (h8:a0.tmps.getD 8 undef=.pointer (some ⟨lb,0,none⟩)) (hs:140≤a0.tmps.size)
  (fin:∀ a w,a.tmps.size=a0.tmps.size→a.defers=a0.defers→(∀ s,(∀ j,j<73→lyD j≠some s)→a.tmps.getD s undef=a0.tmps.getD s undef)→a.tmps.getD 5 undef=.bool (bk c 8)→w=w0→Q .normal a w):(Code.region id ops false).wp Tryz.prog Q a0 w0:=by
 obtain⟨k0,k1,k2,k3,k4,k5,k6,k7,k8⟩:=hc
 have hsz:ops.size=73:=by
  have:=congrArg List.length hT
  simpa [lyT] using this
 have OP:∀ (i:Nat) (e:Option Nat × Op × Option (Nat × Bool)),lyT[i]? = some e→∃ o:Oper,ops[i]? = some o∧o.dst=e.1∧o.op=e.2.1∧o.guard=e.2.2:=fun i e he=>by
  rw[←hT,List.getElem?_map] at he
  obtain⟨o,h1,h2⟩:=Option.map_eq_some_iff.1 he
  exact⟨o,by rw[←h1,Array.getElem?_toList],by rw[←h2],by rw[←h2],by rw[←h2]⟩
 refine wp_region_seq (LyI D DD XD NE x cb lb Y c w0 a0) ⟨rfl,rfl,(fun _ _=>rfl),(fun j d hj=>absurd hj (by omega)),rfl⟩ ?_ ?_
 ·intro i o a w ho hI
  have hi:i<73:=by rw[←hsz];exact (Array.getElem?_eq_some_iff.1 ho).1
  have ev:∀ (s:Nat),a.eval (.tmp s)=a.tmps.getD s undef:=fun _=>rfl
  have ke:∀ s,(∀ j,j<73→lyD j≠some s)→a.tmps.getD s undef=a0.tmps.getD s undef:=fun s hs=>hI.kept s hs
  have asz:=hI.size
  have ww:=hI.w_
  have qc:Blk 23 w cb #[.int .i64 (D:Int),.int .i64 h,.int .i64 l,.int .i64 v,.int .i64 u,.int .i64 x,.int .i64 t,.int .i64 n]:=by rw[ww];exact q3
  have qb:Blk 65 w lb #[.slice (Y 0).a (Y 0).n (Y 0).c,.slice (Y 1).a (Y 1).n (Y 1).c,.slice (Y 2).a (Y 2).n (Y 2).c,.slice (Y 3).a (Y 3).n (Y 3).c,.slice (Y 4).a (Y 4).n (Y 4).c,.slice (Y 5).a (Y 5).n (Y 5).c,.slice (Y 6).a (Y 6).n (Y 6).c,.slice (Y 7).a (Y 7).n (Y 7).c,.slice (Y 8).a (Y 8).n (Y 8).c]:=by rw[ww];exact q59
  obtain⟨o',e1,e2,e3,e4⟩:=OP i (lyT.getD i (none,.alloc 0,none)) (by rw[List.getElem?_eq_getElem (by simpa [lyT] using hi),List.getD_eq_getElem?_getD,List.getElem?_eq_getElem (by simpa [lyT] using hi)];rfl)
  obtain rfl:=sOp ho e1
  rcases (show i=0∨i=1∨i=2∨i=3∨i=4∨i=5∨i=6∨i=7∨i=8∨i=9∨i=10∨i=11∨i=12∨i=13∨i=14∨i=15∨i=16∨i=17∨i=18∨i=19∨i=20∨i=21∨i=22∨i=23∨i=24∨i=25∨i=26∨i=27∨i=28∨i=29∨i=30∨i=31∨i=32∨i=33∨i=34∨i=35∨i=36∨i=37∨i=38∨i=39∨i=40∨i=41∨i=42∨i=43∨i=44∨i=45∨i=46∨i=47∨i=48∨i=49∨i=50∨i=51∨i=52∨i=53∨i=54∨i=55∨i=56∨i=57∨i=58∨i=59∨i=60∨i=61∨i=62∨i=63∨i=64∨i=65∨i=66∨i=67∨i=68∨i=69∨i=70∨i=71∨i=72 by omega) with rfl|rfl|rfl|rfl|rfl|rfl|rfl|rfl|rfl|rfl|rfl|rfl|rfl|rfl|rfl|rfl|rfl|rfl|rfl|rfl|rfl|rfl|rfl|rfl|rfl|rfl|rfl|rfl|rfl|rfl|rfl|rfl|rfl|rfl|rfl|rfl|rfl|rfl|rfl|rfl|rfl|rfl|rfl|rfl|rfl|rfl|rfl|rfl|rfl|rfl|rfl|rfl|rfl|rfl|rfl|rfl|rfl|rfl|rfl|rfl|rfl|rfl|rfl|rfl|rfl|rfl|rfl|rfl|rfl|rfl|rfl|rfl|rfl
  ·replace e2:o.dst=some 68:=e2
   replace e3:o.op=.fieldAddr 65 (.tmp 8) 0:=e3
   replace e4:o.guard=none:=e4
   have ev8:a.tmps.getD 8 undef=.pointer (some ⟨lb,0,none⟩):=(ke 8 (by decide)).trans h8
   refine wVa (v:=.pointer (some ⟨lb,0,none⟩)) (w':=w) ho e4 ?_ (by rw[e2];exact hI.put hi rfl (by omega) rfl )
   simp[execOp,e3,ev,ev8,run_field lb 0 (by decide)]
  ·replace e2:o.dst=some 69:=e2
   replace e3:o.op=.load 24 (.tmp 68):=e3
   replace e4:o.guard=none:=e4
   have ev68:a.tmps.getD 68 undef=.pointer (some ⟨lb,0,none⟩):=hI.val 0 68 (by decide) rfl
   refine wVa (v:=.slice (Y 0).a (Y 0).n (Y 0).c) (w':=w) ho e4 ?_ (by rw[e2];exact hI.put hi rfl (by omega) rfl )
   simp[execOp,e3,ev,ev68,run_load24 (qb.cell 0 rfl)]
  ·replace e2:o.dst=some 70:=e2
   replace e3:o.op=.call { callee:=.builtin .len,args:=#[.tmp 69],argTypes:=#[24] }:=e3
   replace e4:o.guard=none:=e4
   have ev69:a.tmps.getD 69 undef=.slice (Y 0).a (Y 0).n (Y 0).c:=hI.val 1 69 (by decide) rfl
   refine wVa (v:=.int .i64 ((Y 0).n:Int)) (w':=w) ho e4 ?_ (by rw[e2];exact hI.put hi rfl (by omega) rfl )
   exact exec_len (by decide) e3 ev69 w
  ·replace e2:o.dst=some 71:=e2
   replace e3:o.op=.move (.tmp 4):=e3
   replace e4:o.guard=none:=e4
   have ev4:a.tmps.getD 4 undef=.int .i64 (D:Int):=(ke 4 (by decide)).trans h4
   refine wVa (v:=.int .i64 (D:Int)) (w':=w) ho e4 ?_ (by rw[e2];exact hI.put hi rfl (by omega) rfl )
   simp[execOp,e3,ev,ev4]
  ·replace e2:o.dst=some 72:=e2
   replace e3:o.op=.binOp .eql 3 (.tmp 70) (.tmp 71) 3:=e3
   replace e4:o.guard=none:=e4
   have ev70:a.tmps.getD 70 undef=.int .i64 ((Y 0).n:Int):=hI.val 2 70 (by decide) rfl
   have ev71:a.tmps.getD 71 undef=.int .i64 (D:Int):=hI.val 3 71 (by decide) rfl
   refine wVa (v:=.bool (c 0)) (w':=w) ho e4 ?_ (by rw[e2];exact hI.put hi rfl (by omega) rfl )
   simp[execOp,e3,ev,ev70,ev71,eqGuard,run_eql,k0]
  ·replace e2:o.dst=some 73:=e2
   replace e3:o.op=.move (.tmp 72):=e3
   replace e4:o.guard=none:=e4
   have ev72:a.tmps.getD 72 undef=.bool (c 0):=hI.val 4 72 (by decide) rfl
   refine wVa (v:=.bool (c 0)) (w':=w) ho e4 ?_ (by rw[e2];exact hI.put hi rfl (by omega) rfl )
   simp[execOp,e3,ev,ev72,k0]
  ·replace e2:o.dst=some 74:=e2
   replace e3:o.op=.fieldAddr 65 (.tmp 8) 1:=e3
   replace e4:o.guard=some (5,true):=e4
   have evg:a.tmps.getD 73 undef=.bool (bk c 0):=hI.val 5 73 (by decide) rfl
   obtain⟨og,g1,g2,_,_⟩:=OP 5 (some 73,.move (.tmp 72),none) rfl
   refine wGu (v:=.pointer (some ⟨lb,1,none⟩)) ho e4 g1 g2 (by omega) evg (fun HB=>⟨?_,by rw[e2];exact hI.put hi rfl (by omega) (fun _=>rfl) ⟩) (fun HB=>by rw[e2];exact hI.put hi rfl (by omega) (fun h=>by rw[HB] at h;cases h) )
   have ev8:a.tmps.getD 8 undef=.pointer (some ⟨lb,0,none⟩):=(ke 8 (by decide)).trans h8
   simp[execOp,e3,ev,ev8,run_field lb 1 (by decide)]
  ·replace e2:o.dst=some 75:=e2
   replace e3:o.op=.load 24 (.tmp 74):=e3
   replace e4:o.guard=some (5,true):=e4
   have evg:a.tmps.getD 73 undef=.bool (bk c 0):=hI.val 5 73 (by decide) rfl
   obtain⟨og,g1,g2,_,_⟩:=OP 5 (some 73,.move (.tmp 72),none) rfl
   refine wGu (v:=.slice (Y 1).a (Y 1).n (Y 1).c) ho e4 g1 g2 (by omega) evg (fun HB=>⟨?_,by rw[e2];exact hI.put hi rfl (by omega) (fun _=>rfl) ⟩) (fun HB=>by rw[e2];exact hI.put hi rfl (by omega) (fun h=>by rw[HB] at h;cases h) )
   have ev74:a.tmps.getD 74 undef=.pointer (some ⟨lb,1,none⟩):=hI.val 6 74 (by decide) rfl HB
   simp[execOp,e3,ev,ev74,run_load24 (qb.cell 1 rfl)]
  ·replace e2:o.dst=some 76:=e2
   replace e3:o.op=.call { callee:=.builtin .len,args:=#[.tmp 75],argTypes:=#[24] }:=e3
   replace e4:o.guard=some (5,true):=e4
   have evg:a.tmps.getD 73 undef=.bool (bk c 0):=hI.val 5 73 (by decide) rfl
   obtain⟨og,g1,g2,_,_⟩:=OP 5 (some 73,.move (.tmp 72),none) rfl
   refine wGu (v:=.int .i64 ((Y 1).n:Int)) ho e4 g1 g2 (by omega) evg (fun HB=>⟨?_,by rw[e2];exact hI.put hi rfl (by omega) (fun _=>rfl) ⟩) (fun HB=>by rw[e2];exact hI.put hi rfl (by omega) (fun h=>by rw[HB] at h;cases h) )
   have ev75:a.tmps.getD 75 undef=.slice (Y 1).a (Y 1).n (Y 1).c:=hI.val 7 75 (by decide) rfl HB
   exact exec_len (by decide) e3 ev75 w
  ·replace e2:o.dst=some 77:=e2
   replace e3:o.op=.move (.tmp 4):=e3
   replace e4:o.guard=some (5,true):=e4
   have evg:a.tmps.getD 73 undef=.bool (bk c 0):=hI.val 5 73 (by decide) rfl
   obtain⟨og,g1,g2,_,_⟩:=OP 5 (some 73,.move (.tmp 72),none) rfl
   refine wGu (v:=.int .i64 (D:Int)) ho e4 g1 g2 (by omega) evg (fun HB=>⟨?_,by rw[e2];exact hI.put hi rfl (by omega) (fun _=>rfl) ⟩) (fun HB=>by rw[e2];exact hI.put hi rfl (by omega) (fun h=>by rw[HB] at h;cases h) )
   have ev4:a.tmps.getD 4 undef=.int .i64 (D:Int):=(ke 4 (by decide)).trans h4
   simp[execOp,e3,ev,ev4]
  ·replace e2:o.dst=some 78:=e2
   replace e3:o.op=.move (.tmp 4):=e3
   replace e4:o.guard=some (5,true):=e4
   have evg:a.tmps.getD 73 undef=.bool (bk c 0):=hI.val 5 73 (by decide) rfl
   obtain⟨og,g1,g2,_,_⟩:=OP 5 (some 73,.move (.tmp 72),none) rfl
   refine wGu (v:=.int .i64 (D:Int)) ho e4 g1 g2 (by omega) evg (fun HB=>⟨?_,by rw[e2];exact hI.put hi rfl (by omega) (fun _=>rfl) ⟩) (fun HB=>by rw[e2];exact hI.put hi rfl (by omega) (fun h=>by rw[HB] at h;cases h) )
   have ev4:a.tmps.getD 4 undef=.int .i64 (D:Int):=(ke 4 (by decide)).trans h4
   simp[execOp,e3,ev,ev4]
  ·replace e2:o.dst=some 79:=e2
   replace e3:o.op=.binOp .mul 3 (.tmp 77) (.tmp 78) 3:=e3
   replace e4:o.guard=some (5,true):=e4
   have evg:a.tmps.getD 73 undef=.bool (bk c 0):=hI.val 5 73 (by decide) rfl
   obtain⟨og,g1,g2,_,_⟩:=OP 5 (some 73,.move (.tmp 72),none) rfl
   refine wGu (v:=.int .i64 (DD:Int)) ho e4 g1 g2 (by omega) evg (fun HB=>⟨?_,by rw[e2];exact hI.put hi rfl (by omega) (fun _=>rfl) ⟩) (fun HB=>by rw[e2];exact hI.put hi rfl (by omega) (fun h=>by rw[HB] at h;cases h) )
   have ev77:a.tmps.getD 77 undef=.int .i64 (D:Int):=hI.val 9 77 (by decide) rfl HB
   have ev78:a.tmps.getD 78 undef=.int .i64 (D:Int):=hI.val 10 78 (by decide) rfl HB
   simp[execOp,e3,ev,ev77,ev78,eqGuard,m1]
  ·replace e2:o.dst=some 80:=e2
   replace e3:o.op=.binOp .eql 3 (.tmp 76) (.tmp 79) 3:=e3
   replace e4:o.guard=some (5,true):=e4
   have evg:a.tmps.getD 73 undef=.bool (bk c 0):=hI.val 5 73 (by decide) rfl
   obtain⟨og,g1,g2,_,_⟩:=OP 5 (some 73,.move (.tmp 72),none) rfl
   refine wGu (v:=.bool (c 1)) ho e4 g1 g2 (by omega) evg (fun HB=>⟨?_,by rw[e2];exact hI.put hi rfl (by omega) (fun _=>rfl) ⟩) (fun HB=>by rw[e2];exact hI.put hi rfl (by omega) (fun h=>by rw[HB] at h;cases h) )
   have ev76:a.tmps.getD 76 undef=.int .i64 ((Y 1).n:Int):=hI.val 8 76 (by decide) rfl HB
   have ev79:a.tmps.getD 79 undef=.int .i64 (DD:Int):=hI.val 11 79 (by decide) rfl HB
   simp[execOp,e3,ev,ev76,ev79,eqGuard,run_eql,k1]
  ·replace e2:o.dst=some 81:=e2
   replace e3:o.op=.pick (.tmp 73) (.tmp 80) (.const (.bool false)):=e3
   replace e4:o.guard=none:=e4
   have ev73:a.tmps.getD 73 undef=.bool (bk c 0):=hI.val 5 73 (by decide) rfl
   refine wVa (v:=.bool (bk c 1)) (w':=w) ho e4 ?_ (by rw[e2];exact hI.put hi rfl (by omega) rfl )
   cases HB:bk c 0 with
   | true =>
    have ev80:a.tmps.getD 80 undef=.bool (c 1):=hI.val 12 80 (by decide) rfl HB
    simp[execOp,e3,ev,ev73,ev80,HB,asBool,show bk c 1=(bk c 0 && c 1) from rfl]
   | false =>
    simp[execOp,e3,ev,ev73,HB,asBool,show bk c 1=(bk c 0 && c 1) from rfl,show a.eval (.const (.bool false))=.bool false from rfl]
  ·replace e2:o.dst=some 82:=e2
   replace e3:o.op=.move (.tmp 81):=e3
   replace e4:o.guard=none:=e4
   have ev81:a.tmps.getD 81 undef=.bool (bk c 1):=hI.val 13 81 (by decide) rfl
   refine wVa (v:=.bool (bk c 1)) (w':=w) ho e4 ?_ (by rw[e2];exact hI.put hi rfl (by omega) rfl )
   simp[execOp,e3,ev,ev81]
  ·replace e2:o.dst=some 83:=e2
   replace e3:o.op=.fieldAddr 65 (.tmp 8) 2:=e3
   replace e4:o.guard=some (14,true):=e4
   have evg:a.tmps.getD 82 undef=.bool (bk c 1):=hI.val 14 82 (by decide) rfl
   obtain⟨og,g1,g2,_,_⟩:=OP 14 (some 82,.move (.tmp 81),none) rfl
   refine wGu (v:=.pointer (some ⟨lb,2,none⟩)) ho e4 g1 g2 (by omega) evg (fun HB=>⟨?_,by rw[e2];exact hI.put hi rfl (by omega) (fun _=>rfl) ⟩) (fun HB=>by rw[e2];exact hI.put hi rfl (by omega) (fun h=>by rw[HB] at h;cases h) )
   have ev8:a.tmps.getD 8 undef=.pointer (some ⟨lb,0,none⟩):=(ke 8 (by decide)).trans h8
   simp[execOp,e3,ev,ev8,run_field lb 2 (by decide)]
  ·replace e2:o.dst=some 84:=e2
   replace e3:o.op=.load 24 (.tmp 83):=e3
   replace e4:o.guard=some (14,true):=e4
   have evg:a.tmps.getD 82 undef=.bool (bk c 1):=hI.val 14 82 (by decide) rfl
   obtain⟨og,g1,g2,_,_⟩:=OP 14 (some 82,.move (.tmp 81),none) rfl
   refine wGu (v:=.slice (Y 2).a (Y 2).n (Y 2).c) ho e4 g1 g2 (by omega) evg (fun HB=>⟨?_,by rw[e2];exact hI.put hi rfl (by omega) (fun _=>rfl) ⟩) (fun HB=>by rw[e2];exact hI.put hi rfl (by omega) (fun h=>by rw[HB] at h;cases h) )
   have ev83:a.tmps.getD 83 undef=.pointer (some ⟨lb,2,none⟩):=hI.val 15 83 (by decide) rfl HB
   simp[execOp,e3,ev,ev83,run_load24 (qb.cell 2 rfl)]
  ·replace e2:o.dst=some 85:=e2
   replace e3:o.op=.call { callee:=.builtin .len,args:=#[.tmp 84],argTypes:=#[24] }:=e3
   replace e4:o.guard=some (14,true):=e4
   have evg:a.tmps.getD 82 undef=.bool (bk c 1):=hI.val 14 82 (by decide) rfl
   obtain⟨og,g1,g2,_,_⟩:=OP 14 (some 82,.move (.tmp 81),none) rfl
   refine wGu (v:=.int .i64 ((Y 2).n:Int)) ho e4 g1 g2 (by omega) evg (fun HB=>⟨?_,by rw[e2];exact hI.put hi rfl (by omega) (fun _=>rfl) ⟩) (fun HB=>by rw[e2];exact hI.put hi rfl (by omega) (fun h=>by rw[HB] at h;cases h) )
   have ev84:a.tmps.getD 84 undef=.slice (Y 2).a (Y 2).n (Y 2).c:=hI.val 16 84 (by decide) rfl HB
   exact exec_len (by decide) e3 ev84 w
  ·replace e2:o.dst=some 86:=e2
   replace e3:o.op=.move (.tmp 4):=e3
   replace e4:o.guard=some (14,true):=e4
   have evg:a.tmps.getD 82 undef=.bool (bk c 1):=hI.val 14 82 (by decide) rfl
   obtain⟨og,g1,g2,_,_⟩:=OP 14 (some 82,.move (.tmp 81),none) rfl
   refine wGu (v:=.int .i64 (D:Int)) ho e4 g1 g2 (by omega) evg (fun HB=>⟨?_,by rw[e2];exact hI.put hi rfl (by omega) (fun _=>rfl) ⟩) (fun HB=>by rw[e2];exact hI.put hi rfl (by omega) (fun h=>by rw[HB] at h;cases h) )
   have ev4:a.tmps.getD 4 undef=.int .i64 (D:Int):=(ke 4 (by decide)).trans h4
   simp[execOp,e3,ev,ev4]
  ·replace e2:o.dst=some 87:=e2
   replace e3:o.op=.move (.tmp 4):=e3
   replace e4:o.guard=some (14,true):=e4
   have evg:a.tmps.getD 82 undef=.bool (bk c 1):=hI.val 14 82 (by decide) rfl
   obtain⟨og,g1,g2,_,_⟩:=OP 14 (some 82,.move (.tmp 81),none) rfl
   refine wGu (v:=.int .i64 (D:Int)) ho e4 g1 g2 (by omega) evg (fun HB=>⟨?_,by rw[e2];exact hI.put hi rfl (by omega) (fun _=>rfl) ⟩) (fun HB=>by rw[e2];exact hI.put hi rfl (by omega) (fun h=>by rw[HB] at h;cases h) )
   have ev4:a.tmps.getD 4 undef=.int .i64 (D:Int):=(ke 4 (by decide)).trans h4
   simp[execOp,e3,ev,ev4]
  ·replace e2:o.dst=some 88:=e2
   replace e3:o.op=.binOp .mul 3 (.tmp 86) (.tmp 87) 3:=e3
   replace e4:o.guard=some (14,true):=e4
   have evg:a.tmps.getD 82 undef=.bool (bk c 1):=hI.val 14 82 (by decide) rfl
   obtain⟨og,g1,g2,_,_⟩:=OP 14 (some 82,.move (.tmp 81),none) rfl
   refine wGu (v:=.int .i64 (DD:Int)) ho e4 g1 g2 (by omega) evg (fun HB=>⟨?_,by rw[e2];exact hI.put hi rfl (by omega) (fun _=>rfl) ⟩) (fun HB=>by rw[e2];exact hI.put hi rfl (by omega) (fun h=>by rw[HB] at h;cases h) )
   have ev86:a.tmps.getD 86 undef=.int .i64 (D:Int):=hI.val 18 86 (by decide) rfl HB
   have ev87:a.tmps.getD 87 undef=.int .i64 (D:Int):=hI.val 19 87 (by decide) rfl HB
   simp[execOp,e3,ev,ev86,ev87,eqGuard,m1]
  ·replace e2:o.dst=some 89:=e2
   replace e3:o.op=.binOp .eql 3 (.tmp 85) (.tmp 88) 3:=e3
   replace e4:o.guard=some (14,true):=e4
   have evg:a.tmps.getD 82 undef=.bool (bk c 1):=hI.val 14 82 (by decide) rfl
   obtain⟨og,g1,g2,_,_⟩:=OP 14 (some 82,.move (.tmp 81),none) rfl
   refine wGu (v:=.bool (c 2)) ho e4 g1 g2 (by omega) evg (fun HB=>⟨?_,by rw[e2];exact hI.put hi rfl (by omega) (fun _=>rfl) ⟩) (fun HB=>by rw[e2];exact hI.put hi rfl (by omega) (fun h=>by rw[HB] at h;cases h) )
   have ev85:a.tmps.getD 85 undef=.int .i64 ((Y 2).n:Int):=hI.val 17 85 (by decide) rfl HB
   have ev88:a.tmps.getD 88 undef=.int .i64 (DD:Int):=hI.val 20 88 (by decide) rfl HB
   simp[execOp,e3,ev,ev85,ev88,eqGuard,run_eql,k2]
  ·replace e2:o.dst=some 90:=e2
   replace e3:o.op=.pick (.tmp 82) (.tmp 89) (.const (.bool false)):=e3
   replace e4:o.guard=none:=e4
   have ev82:a.tmps.getD 82 undef=.bool (bk c 1):=hI.val 14 82 (by decide) rfl
   refine wVa (v:=.bool (bk c 2)) (w':=w) ho e4 ?_ (by rw[e2];exact hI.put hi rfl (by omega) rfl )
   cases HB:bk c 1 with
   | true =>
    have ev89:a.tmps.getD 89 undef=.bool (c 2):=hI.val 21 89 (by decide) rfl HB
    simp[execOp,e3,ev,ev82,ev89,HB,asBool,show bk c 2=(bk c 1 && c 2) from rfl]
   | false =>
    simp[execOp,e3,ev,ev82,HB,asBool,show bk c 2=(bk c 1 && c 2) from rfl,show a.eval (.const (.bool false))=.bool false from rfl]
  ·replace e2:o.dst=some 91:=e2
   replace e3:o.op=.move (.tmp 90):=e3
   replace e4:o.guard=none:=e4
   have ev90:a.tmps.getD 90 undef=.bool (bk c 2):=hI.val 22 90 (by decide) rfl
   refine wVa (v:=.bool (bk c 2)) (w':=w) ho e4 ?_ (by rw[e2];exact hI.put hi rfl (by omega) rfl )
   simp[execOp,e3,ev,ev90]
  ·replace e2:o.dst=some 92:=e2
   replace e3:o.op=.fieldAddr 65 (.tmp 8) 3:=e3
   replace e4:o.guard=some (23,true):=e4
   have evg:a.tmps.getD 91 undef=.bool (bk c 2):=hI.val 23 91 (by decide) rfl
   obtain⟨og,g1,g2,_,_⟩:=OP 23 (some 91,.move (.tmp 90),none) rfl
   refine wGu (v:=.pointer (some ⟨lb,3,none⟩)) ho e4 g1 g2 (by omega) evg (fun HB=>⟨?_,by rw[e2];exact hI.put hi rfl (by omega) (fun _=>rfl) ⟩) (fun HB=>by rw[e2];exact hI.put hi rfl (by omega) (fun h=>by rw[HB] at h;cases h) )
   have ev8:a.tmps.getD 8 undef=.pointer (some ⟨lb,0,none⟩):=(ke 8 (by decide)).trans h8
   simp[execOp,e3,ev,ev8,run_field lb 3 (by decide)]
  ·replace e2:o.dst=some 93:=e2
   replace e3:o.op=.load 24 (.tmp 92):=e3
   replace e4:o.guard=some (23,true):=e4
   have evg:a.tmps.getD 91 undef=.bool (bk c 2):=hI.val 23 91 (by decide) rfl
   obtain⟨og,g1,g2,_,_⟩:=OP 23 (some 91,.move (.tmp 90),none) rfl
   refine wGu (v:=.slice (Y 3).a (Y 3).n (Y 3).c) ho e4 g1 g2 (by omega) evg (fun HB=>⟨?_,by rw[e2];exact hI.put hi rfl (by omega) (fun _=>rfl) ⟩) (fun HB=>by rw[e2];exact hI.put hi rfl (by omega) (fun h=>by rw[HB] at h;cases h) )
   have ev92:a.tmps.getD 92 undef=.pointer (some ⟨lb,3,none⟩):=hI.val 24 92 (by decide) rfl HB
   simp[execOp,e3,ev,ev92,run_load24 (qb.cell 3 rfl)]
  ·replace e2:o.dst=some 94:=e2
   replace e3:o.op=.call { callee:=.builtin .len,args:=#[.tmp 93],argTypes:=#[24] }:=e3
   replace e4:o.guard=some (23,true):=e4
   have evg:a.tmps.getD 91 undef=.bool (bk c 2):=hI.val 23 91 (by decide) rfl
   obtain⟨og,g1,g2,_,_⟩:=OP 23 (some 91,.move (.tmp 90),none) rfl
   refine wGu (v:=.int .i64 ((Y 3).n:Int)) ho e4 g1 g2 (by omega) evg (fun HB=>⟨?_,by rw[e2];exact hI.put hi rfl (by omega) (fun _=>rfl) ⟩) (fun HB=>by rw[e2];exact hI.put hi rfl (by omega) (fun h=>by rw[HB] at h;cases h) )
   have ev93:a.tmps.getD 93 undef=.slice (Y 3).a (Y 3).n (Y 3).c:=hI.val 25 93 (by decide) rfl HB
   exact exec_len (by decide) e3 ev93 w
  ·replace e2:o.dst=some 95:=e2
   replace e3:o.op=.move (.tmp 4):=e3
   replace e4:o.guard=some (23,true):=e4
   have evg:a.tmps.getD 91 undef=.bool (bk c 2):=hI.val 23 91 (by decide) rfl
   obtain⟨og,g1,g2,_,_⟩:=OP 23 (some 91,.move (.tmp 90),none) rfl
   refine wGu (v:=.int .i64 (D:Int)) ho e4 g1 g2 (by omega) evg (fun HB=>⟨?_,by rw[e2];exact hI.put hi rfl (by omega) (fun _=>rfl) ⟩) (fun HB=>by rw[e2];exact hI.put hi rfl (by omega) (fun h=>by rw[HB] at h;cases h) )
   have ev4:a.tmps.getD 4 undef=.int .i64 (D:Int):=(ke 4 (by decide)).trans h4
   simp[execOp,e3,ev,ev4]
  ·replace e2:o.dst=some 96:=e2
   replace e3:o.op=.move (.tmp 4):=e3
   replace e4:o.guard=some (23,true):=e4
   have evg:a.tmps.getD 91 undef=.bool (bk c 2):=hI.val 23 91 (by decide) rfl
   obtain⟨og,g1,g2,_,_⟩:=OP 23 (some 91,.move (.tmp 90),none) rfl
   refine wGu (v:=.int .i64 (D:Int)) ho e4 g1 g2 (by omega) evg (fun HB=>⟨?_,by rw[e2];exact hI.put hi rfl (by omega) (fun _=>rfl) ⟩) (fun HB=>by rw[e2];exact hI.put hi rfl (by omega) (fun h=>by rw[HB] at h;cases h) )
   have ev4:a.tmps.getD 4 undef=.int .i64 (D:Int):=(ke 4 (by decide)).trans h4
   simp[execOp,e3,ev,ev4]
  ·replace e2:o.dst=some 97:=e2
   replace e3:o.op=.binOp .mul 3 (.tmp 95) (.tmp 96) 3:=e3
   replace e4:o.guard=some (23,true):=e4
   have evg:a.tmps.getD 91 undef=.bool (bk c 2):=hI.val 23 91 (by decide) rfl
   obtain⟨og,g1,g2,_,_⟩:=OP 23 (some 91,.move (.tmp 90),none) rfl
   refine wGu (v:=.int .i64 (DD:Int)) ho e4 g1 g2 (by omega) evg (fun HB=>⟨?_,by rw[e2];exact hI.put hi rfl (by omega) (fun _=>rfl) ⟩) (fun HB=>by rw[e2];exact hI.put hi rfl (by omega) (fun h=>by rw[HB] at h;cases h) )
   have ev95:a.tmps.getD 95 undef=.int .i64 (D:Int):=hI.val 27 95 (by decide) rfl HB
   have ev96:a.tmps.getD 96 undef=.int .i64 (D:Int):=hI.val 28 96 (by decide) rfl HB
   simp[execOp,e3,ev,ev95,ev96,eqGuard,m1]
  ·replace e2:o.dst=some 98:=e2
   replace e3:o.op=.binOp .eql 3 (.tmp 94) (.tmp 97) 3:=e3
   replace e4:o.guard=some (23,true):=e4
   have evg:a.tmps.getD 91 undef=.bool (bk c 2):=hI.val 23 91 (by decide) rfl
   obtain⟨og,g1,g2,_,_⟩:=OP 23 (some 91,.move (.tmp 90),none) rfl
   refine wGu (v:=.bool (c 3)) ho e4 g1 g2 (by omega) evg (fun HB=>⟨?_,by rw[e2];exact hI.put hi rfl (by omega) (fun _=>rfl) ⟩) (fun HB=>by rw[e2];exact hI.put hi rfl (by omega) (fun h=>by rw[HB] at h;cases h) )
   have ev94:a.tmps.getD 94 undef=.int .i64 ((Y 3).n:Int):=hI.val 26 94 (by decide) rfl HB
   have ev97:a.tmps.getD 97 undef=.int .i64 (DD:Int):=hI.val 29 97 (by decide) rfl HB
   simp[execOp,e3,ev,ev94,ev97,eqGuard,run_eql,k3]
  ·replace e2:o.dst=some 99:=e2
   replace e3:o.op=.pick (.tmp 91) (.tmp 98) (.const (.bool false)):=e3
   replace e4:o.guard=none:=e4
   have ev91:a.tmps.getD 91 undef=.bool (bk c 2):=hI.val 23 91 (by decide) rfl
   refine wVa (v:=.bool (bk c 3)) (w':=w) ho e4 ?_ (by rw[e2];exact hI.put hi rfl (by omega) rfl )
   cases HB:bk c 2 with
   | true =>
    have ev98:a.tmps.getD 98 undef=.bool (c 3):=hI.val 30 98 (by decide) rfl HB
    simp[execOp,e3,ev,ev91,ev98,HB,asBool,show bk c 3=(bk c 2 && c 3) from rfl]
   | false =>
    simp[execOp,e3,ev,ev91,HB,asBool,show bk c 3=(bk c 2 && c 3) from rfl,show a.eval (.const (.bool false))=.bool false from rfl]
  ·replace e2:o.dst=some 100:=e2
   replace e3:o.op=.move (.tmp 99):=e3
   replace e4:o.guard=none:=e4
   have ev99:a.tmps.getD 99 undef=.bool (bk c 3):=hI.val 31 99 (by decide) rfl
   refine wVa (v:=.bool (bk c 3)) (w':=w) ho e4 ?_ (by rw[e2];exact hI.put hi rfl (by omega) rfl )
   simp[execOp,e3,ev,ev99]
  ·replace e2:o.dst=some 101:=e2
   replace e3:o.op=.fieldAddr 65 (.tmp 8) 4:=e3
   replace e4:o.guard=some (32,true):=e4
   have evg:a.tmps.getD 100 undef=.bool (bk c 3):=hI.val 32 100 (by decide) rfl
   obtain⟨og,g1,g2,_,_⟩:=OP 32 (some 100,.move (.tmp 99),none) rfl
   refine wGu (v:=.pointer (some ⟨lb,4,none⟩)) ho e4 g1 g2 (by omega) evg (fun HB=>⟨?_,by rw[e2];exact hI.put hi rfl (by omega) (fun _=>rfl) ⟩) (fun HB=>by rw[e2];exact hI.put hi rfl (by omega) (fun h=>by rw[HB] at h;cases h) )
   have ev8:a.tmps.getD 8 undef=.pointer (some ⟨lb,0,none⟩):=(ke 8 (by decide)).trans h8
   simp[execOp,e3,ev,ev8,run_field lb 4 (by decide)]
  ·replace e2:o.dst=some 102:=e2
   replace e3:o.op=.load 24 (.tmp 101):=e3
   replace e4:o.guard=some (32,true):=e4
   have evg:a.tmps.getD 100 undef=.bool (bk c 3):=hI.val 32 100 (by decide) rfl
   obtain⟨og,g1,g2,_,_⟩:=OP 32 (some 100,.move (.tmp 99),none) rfl
   refine wGu (v:=.slice (Y 4).a (Y 4).n (Y 4).c) ho e4 g1 g2 (by omega) evg (fun HB=>⟨?_,by rw[e2];exact hI.put hi rfl (by omega) (fun _=>rfl) ⟩) (fun HB=>by rw[e2];exact hI.put hi rfl (by omega) (fun h=>by rw[HB] at h;cases h) )
   have ev101:a.tmps.getD 101 undef=.pointer (some ⟨lb,4,none⟩):=hI.val 33 101 (by decide) rfl HB
   simp[execOp,e3,ev,ev101,run_load24 (qb.cell 4 rfl)]
  ·replace e2:o.dst=some 103:=e2
   replace e3:o.op=.call { callee:=.builtin .len,args:=#[.tmp 102],argTypes:=#[24] }:=e3
   replace e4:o.guard=some (32,true):=e4
   have evg:a.tmps.getD 100 undef=.bool (bk c 3):=hI.val 32 100 (by decide) rfl
   obtain⟨og,g1,g2,_,_⟩:=OP 32 (some 100,.move (.tmp 99),none) rfl
   refine wGu (v:=.int .i64 ((Y 4).n:Int)) ho e4 g1 g2 (by omega) evg (fun HB=>⟨?_,by rw[e2];exact hI.put hi rfl (by omega) (fun _=>rfl) ⟩) (fun HB=>by rw[e2];exact hI.put hi rfl (by omega) (fun h=>by rw[HB] at h;cases h) )
   have ev102:a.tmps.getD 102 undef=.slice (Y 4).a (Y 4).n (Y 4).c:=hI.val 34 102 (by decide) rfl HB
   exact exec_len (by decide) e3 ev102 w
  ·replace e2:o.dst=some 104:=e2
   replace e3:o.op=.move (.tmp 4):=e3
   replace e4:o.guard=some (32,true):=e4
   have evg:a.tmps.getD 100 undef=.bool (bk c 3):=hI.val 32 100 (by decide) rfl
   obtain⟨og,g1,g2,_,_⟩:=OP 32 (some 100,.move (.tmp 99),none) rfl
   refine wGu (v:=.int .i64 (D:Int)) ho e4 g1 g2 (by omega) evg (fun HB=>⟨?_,by rw[e2];exact hI.put hi rfl (by omega) (fun _=>rfl) ⟩) (fun HB=>by rw[e2];exact hI.put hi rfl (by omega) (fun h=>by rw[HB] at h;cases h) )
   have ev4:a.tmps.getD 4 undef=.int .i64 (D:Int):=(ke 4 (by decide)).trans h4
   simp[execOp,e3,ev,ev4]
  ·replace e2:o.dst=some 105:=e2
   replace e3:o.op=.move (.tmp 4):=e3
   replace e4:o.guard=some (32,true):=e4
   have evg:a.tmps.getD 100 undef=.bool (bk c 3):=hI.val 32 100 (by decide) rfl
   obtain⟨og,g1,g2,_,_⟩:=OP 32 (some 100,.move (.tmp 99),none) rfl
   refine wGu (v:=.int .i64 (D:Int)) ho e4 g1 g2 (by omega) evg (fun HB=>⟨?_,by rw[e2];exact hI.put hi rfl (by omega) (fun _=>rfl) ⟩) (fun HB=>by rw[e2];exact hI.put hi rfl (by omega) (fun h=>by rw[HB] at h;cases h) )
   have ev4:a.tmps.getD 4 undef=.int .i64 (D:Int):=(ke 4 (by decide)).trans h4
   simp[execOp,e3,ev,ev4]
  ·replace e2:o.dst=some 106:=e2
   replace e3:o.op=.binOp .mul 3 (.tmp 104) (.tmp 105) 3:=e3
   replace e4:o.guard=some (32,true):=e4
   have evg:a.tmps.getD 100 undef=.bool (bk c 3):=hI.val 32 100 (by decide) rfl
   obtain⟨og,g1,g2,_,_⟩:=OP 32 (some 100,.move (.tmp 99),none) rfl
   refine wGu (v:=.int .i64 (DD:Int)) ho e4 g1 g2 (by omega) evg (fun HB=>⟨?_,by rw[e2];exact hI.put hi rfl (by omega) (fun _=>rfl) ⟩) (fun HB=>by rw[e2];exact hI.put hi rfl (by omega) (fun h=>by rw[HB] at h;cases h) )
   have ev104:a.tmps.getD 104 undef=.int .i64 (D:Int):=hI.val 36 104 (by decide) rfl HB
   have ev105:a.tmps.getD 105 undef=.int .i64 (D:Int):=hI.val 37 105 (by decide) rfl HB
   simp[execOp,e3,ev,ev104,ev105,eqGuard,m1]
  ·replace e2:o.dst=some 107:=e2
   replace e3:o.op=.binOp .eql 3 (.tmp 103) (.tmp 106) 3:=e3
   replace e4:o.guard=some (32,true):=e4
   have evg:a.tmps.getD 100 undef=.bool (bk c 3):=hI.val 32 100 (by decide) rfl
   obtain⟨og,g1,g2,_,_⟩:=OP 32 (some 100,.move (.tmp 99),none) rfl
   refine wGu (v:=.bool (c 4)) ho e4 g1 g2 (by omega) evg (fun HB=>⟨?_,by rw[e2];exact hI.put hi rfl (by omega) (fun _=>rfl) ⟩) (fun HB=>by rw[e2];exact hI.put hi rfl (by omega) (fun h=>by rw[HB] at h;cases h) )
   have ev103:a.tmps.getD 103 undef=.int .i64 ((Y 4).n:Int):=hI.val 35 103 (by decide) rfl HB
   have ev106:a.tmps.getD 106 undef=.int .i64 (DD:Int):=hI.val 38 106 (by decide) rfl HB
   simp[execOp,e3,ev,ev103,ev106,eqGuard,run_eql,k4]
  ·replace e2:o.dst=some 108:=e2
   replace e3:o.op=.pick (.tmp 100) (.tmp 107) (.const (.bool false)):=e3
   replace e4:o.guard=none:=e4
   have ev100:a.tmps.getD 100 undef=.bool (bk c 3):=hI.val 32 100 (by decide) rfl
   refine wVa (v:=.bool (bk c 4)) (w':=w) ho e4 ?_ (by rw[e2];exact hI.put hi rfl (by omega) rfl )
   cases HB:bk c 3 with
   | true =>
    have ev107:a.tmps.getD 107 undef=.bool (c 4):=hI.val 39 107 (by decide) rfl HB
    simp[execOp,e3,ev,ev100,ev107,HB,asBool,show bk c 4=(bk c 3 && c 4) from rfl]
   | false =>
    simp[execOp,e3,ev,ev100,HB,asBool,show bk c 4=(bk c 3 && c 4) from rfl,show a.eval (.const (.bool false))=.bool false from rfl]
  ·replace e2:o.dst=some 109:=e2
   replace e3:o.op=.move (.tmp 108):=e3
   replace e4:o.guard=none:=e4
   have ev108:a.tmps.getD 108 undef=.bool (bk c 4):=hI.val 40 108 (by decide) rfl
   refine wVa (v:=.bool (bk c 4)) (w':=w) ho e4 ?_ (by rw[e2];exact hI.put hi rfl (by omega) rfl )
   simp[execOp,e3,ev,ev108]
  ·replace e2:o.dst=some 110:=e2
   replace e3:o.op=.fieldAddr 65 (.tmp 8) 5:=e3
   replace e4:o.guard=some (41,true):=e4
   have evg:a.tmps.getD 109 undef=.bool (bk c 4):=hI.val 41 109 (by decide) rfl
   obtain⟨og,g1,g2,_,_⟩:=OP 41 (some 109,.move (.tmp 108),none) rfl
   refine wGu (v:=.pointer (some ⟨lb,5,none⟩)) ho e4 g1 g2 (by omega) evg (fun HB=>⟨?_,by rw[e2];exact hI.put hi rfl (by omega) (fun _=>rfl) ⟩) (fun HB=>by rw[e2];exact hI.put hi rfl (by omega) (fun h=>by rw[HB] at h;cases h) )
   have ev8:a.tmps.getD 8 undef=.pointer (some ⟨lb,0,none⟩):=(ke 8 (by decide)).trans h8
   simp[execOp,e3,ev,ev8,run_field lb 5 (by decide)]
  ·replace e2:o.dst=some 111:=e2
   replace e3:o.op=.load 24 (.tmp 110):=e3
   replace e4:o.guard=some (41,true):=e4
   have evg:a.tmps.getD 109 undef=.bool (bk c 4):=hI.val 41 109 (by decide) rfl
   obtain⟨og,g1,g2,_,_⟩:=OP 41 (some 109,.move (.tmp 108),none) rfl
   refine wGu (v:=.slice (Y 5).a (Y 5).n (Y 5).c) ho e4 g1 g2 (by omega) evg (fun HB=>⟨?_,by rw[e2];exact hI.put hi rfl (by omega) (fun _=>rfl) ⟩) (fun HB=>by rw[e2];exact hI.put hi rfl (by omega) (fun h=>by rw[HB] at h;cases h) )
   have ev110:a.tmps.getD 110 undef=.pointer (some ⟨lb,5,none⟩):=hI.val 42 110 (by decide) rfl HB
   simp[execOp,e3,ev,ev110,run_load24 (qb.cell 5 rfl)]
  ·replace e2:o.dst=some 112:=e2
   replace e3:o.op=.call { callee:=.builtin .len,args:=#[.tmp 111],argTypes:=#[24] }:=e3
   replace e4:o.guard=some (41,true):=e4
   have evg:a.tmps.getD 109 undef=.bool (bk c 4):=hI.val 41 109 (by decide) rfl
   obtain⟨og,g1,g2,_,_⟩:=OP 41 (some 109,.move (.tmp 108),none) rfl
   refine wGu (v:=.int .i64 ((Y 5).n:Int)) ho e4 g1 g2 (by omega) evg (fun HB=>⟨?_,by rw[e2];exact hI.put hi rfl (by omega) (fun _=>rfl) ⟩) (fun HB=>by rw[e2];exact hI.put hi rfl (by omega) (fun h=>by rw[HB] at h;cases h) )
   have ev111:a.tmps.getD 111 undef=.slice (Y 5).a (Y 5).n (Y 5).c:=hI.val 43 111 (by decide) rfl HB
   exact exec_len (by decide) e3 ev111 w
  ·replace e2:o.dst=some 113:=e2
   replace e3:o.op=.move (.tmp 4):=e3
   replace e4:o.guard=some (41,true):=e4
   have evg:a.tmps.getD 109 undef=.bool (bk c 4):=hI.val 41 109 (by decide) rfl
   obtain⟨og,g1,g2,_,_⟩:=OP 41 (some 109,.move (.tmp 108),none) rfl
   refine wGu (v:=.int .i64 (D:Int)) ho e4 g1 g2 (by omega) evg (fun HB=>⟨?_,by rw[e2];exact hI.put hi rfl (by omega) (fun _=>rfl) ⟩) (fun HB=>by rw[e2];exact hI.put hi rfl (by omega) (fun h=>by rw[HB] at h;cases h) )
   have ev4:a.tmps.getD 4 undef=.int .i64 (D:Int):=(ke 4 (by decide)).trans h4
   simp[execOp,e3,ev,ev4]
  ·replace e2:o.dst=some 114:=e2
   replace e3:o.op=.binOp .eql 3 (.tmp 112) (.tmp 113) 3:=e3
   replace e4:o.guard=some (41,true):=e4
   have evg:a.tmps.getD 109 undef=.bool (bk c 4):=hI.val 41 109 (by decide) rfl
   obtain⟨og,g1,g2,_,_⟩:=OP 41 (some 109,.move (.tmp 108),none) rfl
   refine wGu (v:=.bool (c 5)) ho e4 g1 g2 (by omega) evg (fun HB=>⟨?_,by rw[e2];exact hI.put hi rfl (by omega) (fun _=>rfl) ⟩) (fun HB=>by rw[e2];exact hI.put hi rfl (by omega) (fun h=>by rw[HB] at h;cases h) )
   have ev112:a.tmps.getD 112 undef=.int .i64 ((Y 5).n:Int):=hI.val 44 112 (by decide) rfl HB
   have ev113:a.tmps.getD 113 undef=.int .i64 (D:Int):=hI.val 45 113 (by decide) rfl HB
   simp[execOp,e3,ev,ev112,ev113,eqGuard,run_eql,k5]
  ·replace e2:o.dst=some 115:=e2
   replace e3:o.op=.pick (.tmp 109) (.tmp 114) (.const (.bool false)):=e3
   replace e4:o.guard=none:=e4
   have ev109:a.tmps.getD 109 undef=.bool (bk c 4):=hI.val 41 109 (by decide) rfl
   refine wVa (v:=.bool (bk c 5)) (w':=w) ho e4 ?_ (by rw[e2];exact hI.put hi rfl (by omega) rfl )
   cases HB:bk c 4 with
   | true =>
    have ev114:a.tmps.getD 114 undef=.bool (c 5):=hI.val 46 114 (by decide) rfl HB
    simp[execOp,e3,ev,ev109,ev114,HB,asBool,show bk c 5=(bk c 4 && c 5) from rfl]
   | false =>
    simp[execOp,e3,ev,ev109,HB,asBool,show bk c 5=(bk c 4 && c 5) from rfl,show a.eval (.const (.bool false))=.bool false from rfl]
  ·replace e2:o.dst=some 116:=e2
   replace e3:o.op=.move (.tmp 115):=e3
   replace e4:o.guard=none:=e4
   have ev115:a.tmps.getD 115 undef=.bool (bk c 5):=hI.val 47 115 (by decide) rfl
   refine wVa (v:=.bool (bk c 5)) (w':=w) ho e4 ?_ (by rw[e2];exact hI.put hi rfl (by omega) rfl )
   simp[execOp,e3,ev,ev115]
  ·replace e2:o.dst=some 117:=e2
   replace e3:o.op=.fieldAddr 65 (.tmp 8) 6:=e3
   replace e4:o.guard=some (48,true):=e4
   have evg:a.tmps.getD 116 undef=.bool (bk c 5):=hI.val 48 116 (by decide) rfl
   obtain⟨og,g1,g2,_,_⟩:=OP 48 (some 116,.move (.tmp 115),none) rfl
   refine wGu (v:=.pointer (some ⟨lb,6,none⟩)) ho e4 g1 g2 (by omega) evg (fun HB=>⟨?_,by rw[e2];exact hI.put hi rfl (by omega) (fun _=>rfl) ⟩) (fun HB=>by rw[e2];exact hI.put hi rfl (by omega) (fun h=>by rw[HB] at h;cases h) )
   have ev8:a.tmps.getD 8 undef=.pointer (some ⟨lb,0,none⟩):=(ke 8 (by decide)).trans h8
   simp[execOp,e3,ev,ev8,run_field lb 6 (by decide)]
  ·replace e2:o.dst=some 118:=e2
   replace e3:o.op=.load 24 (.tmp 117):=e3
   replace e4:o.guard=some (48,true):=e4
   have evg:a.tmps.getD 116 undef=.bool (bk c 5):=hI.val 48 116 (by decide) rfl
   obtain⟨og,g1,g2,_,_⟩:=OP 48 (some 116,.move (.tmp 115),none) rfl
   refine wGu (v:=.slice (Y 6).a (Y 6).n (Y 6).c) ho e4 g1 g2 (by omega) evg (fun HB=>⟨?_,by rw[e2];exact hI.put hi rfl (by omega) (fun _=>rfl) ⟩) (fun HB=>by rw[e2];exact hI.put hi rfl (by omega) (fun h=>by rw[HB] at h;cases h) )
   have ev117:a.tmps.getD 117 undef=.pointer (some ⟨lb,6,none⟩):=hI.val 49 117 (by decide) rfl HB
   simp[execOp,e3,ev,ev117,run_load24 (qb.cell 6 rfl)]
  ·replace e2:o.dst=some 119:=e2
   replace e3:o.op=.call { callee:=.builtin .len,args:=#[.tmp 118],argTypes:=#[24] }:=e3
   replace e4:o.guard=some (48,true):=e4
   have evg:a.tmps.getD 116 undef=.bool (bk c 5):=hI.val 48 116 (by decide) rfl
   obtain⟨og,g1,g2,_,_⟩:=OP 48 (some 116,.move (.tmp 115),none) rfl
   refine wGu (v:=.int .i64 ((Y 6).n:Int)) ho e4 g1 g2 (by omega) evg (fun HB=>⟨?_,by rw[e2];exact hI.put hi rfl (by omega) (fun _=>rfl) ⟩) (fun HB=>by rw[e2];exact hI.put hi rfl (by omega) (fun h=>by rw[HB] at h;cases h) )
   have ev118:a.tmps.getD 118 undef=.slice (Y 6).a (Y 6).n (Y 6).c:=hI.val 50 118 (by decide) rfl HB
   exact exec_len (by decide) e3 ev118 w
  ·replace e2:o.dst=some 120:=e2
   replace e3:o.op=.fieldAddr 23 (.tmp 3) 5:=e3
   replace e4:o.guard=some (48,true):=e4
   have evg:a.tmps.getD 116 undef=.bool (bk c 5):=hI.val 48 116 (by decide) rfl
   obtain⟨og,g1,g2,_,_⟩:=OP 48 (some 116,.move (.tmp 115),none) rfl
   refine wGu (v:=.pointer (some ⟨cb,5,none⟩)) ho e4 g1 g2 (by omega) evg (fun HB=>⟨?_,by rw[e2];exact hI.put hi rfl (by omega) (fun _=>rfl) ⟩) (fun HB=>by rw[e2];exact hI.put hi rfl (by omega) (fun h=>by rw[HB] at h;cases h) )
   have ev3:a.tmps.getD 3 undef=.pointer (some ⟨cb,0,none⟩):=(ke 3 (by decide)).trans h3
   simp[execOp,e3,ev,ev3,(run_cfg5 qc).1]
  ·replace e2:o.dst=some 121:=e2
   replace e3:o.op=.load 3 (.tmp 120):=e3
   replace e4:o.guard=some (48,true):=e4
   have evg:a.tmps.getD 116 undef=.bool (bk c 5):=hI.val 48 116 (by decide) rfl
   obtain⟨og,g1,g2,_,_⟩:=OP 48 (some 116,.move (.tmp 115),none) rfl
   refine wGu (v:=.int .i64 x) ho e4 g1 g2 (by omega) evg (fun HB=>⟨?_,by rw[e2];exact hI.put hi rfl (by omega) (fun _=>rfl) ⟩) (fun HB=>by rw[e2];exact hI.put hi rfl (by omega) (fun h=>by rw[HB] at h;cases h) )
   have ev120:a.tmps.getD 120 undef=.pointer (some ⟨cb,5,none⟩):=hI.val 52 120 (by decide) rfl HB
   simp[execOp,e3,ev,ev120,(run_cfg5 qc).2]
  ·replace e2:o.dst=some 122:=e2
   replace e3:o.op=.move (.tmp 4):=e3
   replace e4:o.guard=some (48,true):=e4
   have evg:a.tmps.getD 116 undef=.bool (bk c 5):=hI.val 48 116 (by decide) rfl
   obtain⟨og,g1,g2,_,_⟩:=OP 48 (some 116,.move (.tmp 115),none) rfl
   refine wGu (v:=.int .i64 (D:Int)) ho e4 g1 g2 (by omega) evg (fun HB=>⟨?_,by rw[e2];exact hI.put hi rfl (by omega) (fun _=>rfl) ⟩) (fun HB=>by rw[e2];exact hI.put hi rfl (by omega) (fun h=>by rw[HB] at h;cases h) )
   have ev4:a.tmps.getD 4 undef=.int .i64 (D:Int):=(ke 4 (by decide)).trans h4
   simp[execOp,e3,ev,ev4]
  ·replace e2:o.dst=some 123:=e2
   replace e3:o.op=.binOp .mul 3 (.tmp 121) (.tmp 122) 3:=e3
   replace e4:o.guard=some (48,true):=e4
   have evg:a.tmps.getD 116 undef=.bool (bk c 5):=hI.val 48 116 (by decide) rfl
   obtain⟨og,g1,g2,_,_⟩:=OP 48 (some 116,.move (.tmp 115),none) rfl
   refine wGu (v:=.int .i64 (XD:Int)) ho e4 g1 g2 (by omega) evg (fun HB=>⟨?_,by rw[e2];exact hI.put hi rfl (by omega) (fun _=>rfl) ⟩) (fun HB=>by rw[e2];exact hI.put hi rfl (by omega) (fun h=>by rw[HB] at h;cases h) )
   have ev121:a.tmps.getD 121 undef=.int .i64 x:=hI.val 53 121 (by decide) rfl HB
   have ev122:a.tmps.getD 122 undef=.int .i64 (D:Int):=hI.val 54 122 (by decide) rfl HB
   simp[execOp,e3,ev,ev121,ev122,eqGuard,m2]
  ·replace e2:o.dst=some 124:=e2
   replace e3:o.op=.binOp .eql 3 (.tmp 119) (.tmp 123) 3:=e3
   replace e4:o.guard=some (48,true):=e4
   have evg:a.tmps.getD 116 undef=.bool (bk c 5):=hI.val 48 116 (by decide) rfl
   obtain⟨og,g1,g2,_,_⟩:=OP 48 (some 116,.move (.tmp 115),none) rfl
   refine wGu (v:=.bool (c 6)) ho e4 g1 g2 (by omega) evg (fun HB=>⟨?_,by rw[e2];exact hI.put hi rfl (by omega) (fun _=>rfl) ⟩) (fun HB=>by rw[e2];exact hI.put hi rfl (by omega) (fun h=>by rw[HB] at h;cases h) )
   have ev119:a.tmps.getD 119 undef=.int .i64 ((Y 6).n:Int):=hI.val 51 119 (by decide) rfl HB
   have ev123:a.tmps.getD 123 undef=.int .i64 (XD:Int):=hI.val 55 123 (by decide) rfl HB
   simp[execOp,e3,ev,ev119,ev123,eqGuard,run_eql,k6]
  ·replace e2:o.dst=some 125:=e2
   replace e3:o.op=.pick (.tmp 116) (.tmp 124) (.const (.bool false)):=e3
   replace e4:o.guard=none:=e4
   have ev116:a.tmps.getD 116 undef=.bool (bk c 5):=hI.val 48 116 (by decide) rfl
   refine wVa (v:=.bool (bk c 6)) (w':=w) ho e4 ?_ (by rw[e2];exact hI.put hi rfl (by omega) rfl )
   cases HB:bk c 5 with
   | true =>
    have ev124:a.tmps.getD 124 undef=.bool (c 6):=hI.val 56 124 (by decide) rfl HB
    simp[execOp,e3,ev,ev116,ev124,HB,asBool,show bk c 6=(bk c 5 && c 6) from rfl]
   | false =>
    simp[execOp,e3,ev,ev116,HB,asBool,show bk c 6=(bk c 5 && c 6) from rfl,show a.eval (.const (.bool false))=.bool false from rfl]
  ·replace e2:o.dst=some 126:=e2
   replace e3:o.op=.move (.tmp 125):=e3
   replace e4:o.guard=none:=e4
   have ev125:a.tmps.getD 125 undef=.bool (bk c 6):=hI.val 57 125 (by decide) rfl
   refine wVa (v:=.bool (bk c 6)) (w':=w) ho e4 ?_ (by rw[e2];exact hI.put hi rfl (by omega) rfl )
   simp[execOp,e3,ev,ev125]
  ·replace e2:o.dst=some 127:=e2
   replace e3:o.op=.fieldAddr 65 (.tmp 8) 7:=e3
   replace e4:o.guard=some (58,true):=e4
   have evg:a.tmps.getD 126 undef=.bool (bk c 6):=hI.val 58 126 (by decide) rfl
   obtain⟨og,g1,g2,_,_⟩:=OP 58 (some 126,.move (.tmp 125),none) rfl
   refine wGu (v:=.pointer (some ⟨lb,7,none⟩)) ho e4 g1 g2 (by omega) evg (fun HB=>⟨?_,by rw[e2];exact hI.put hi rfl (by omega) (fun _=>rfl) ⟩) (fun HB=>by rw[e2];exact hI.put hi rfl (by omega) (fun h=>by rw[HB] at h;cases h) )
   have ev8:a.tmps.getD 8 undef=.pointer (some ⟨lb,0,none⟩):=(ke 8 (by decide)).trans h8
   simp[execOp,e3,ev,ev8,run_field lb 7 (by decide)]
  ·replace e2:o.dst=some 128:=e2
   replace e3:o.op=.load 63 (.tmp 127):=e3
   replace e4:o.guard=some (58,true):=e4
   have evg:a.tmps.getD 126 undef=.bool (bk c 6):=hI.val 58 126 (by decide) rfl
   obtain⟨og,g1,g2,_,_⟩:=OP 58 (some 126,.move (.tmp 125),none) rfl
   refine wGu (v:=.slice (Y 7).a (Y 7).n (Y 7).c) ho e4 g1 g2 (by omega) evg (fun HB=>⟨?_,by rw[e2];exact hI.put hi rfl (by omega) (fun _=>rfl) ⟩) (fun HB=>by rw[e2];exact hI.put hi rfl (by omega) (fun h=>by rw[HB] at h;cases h) )
   have ev127:a.tmps.getD 127 undef=.pointer (some ⟨lb,7,none⟩):=hI.val 59 127 (by decide) rfl HB
   simp[execOp,e3,ev,ev127,run_load63 (qb.cell 7 rfl)]
  ·replace e2:o.dst=some 129:=e2
   replace e3:o.op=.call { callee:=.builtin .len,args:=#[.tmp 128],argTypes:=#[63] }:=e3
   replace e4:o.guard=some (58,true):=e4
   have evg:a.tmps.getD 126 undef=.bool (bk c 6):=hI.val 58 126 (by decide) rfl
   obtain⟨og,g1,g2,_,_⟩:=OP 58 (some 126,.move (.tmp 125),none) rfl
   refine wGu (v:=.int .i64 ((Y 7).n:Int)) ho e4 g1 g2 (by omega) evg (fun HB=>⟨?_,by rw[e2];exact hI.put hi rfl (by omega) (fun _=>rfl) ⟩) (fun HB=>by rw[e2];exact hI.put hi rfl (by omega) (fun h=>by rw[HB] at h;cases h) )
   have ev128:a.tmps.getD 128 undef=.slice (Y 7).a (Y 7).n (Y 7).c:=hI.val 60 128 (by decide) rfl HB
   exact exec_len (by decide) e3 ev128 w
  ·replace e2:o.dst=some 130:=e2
   replace e3:o.op=.move (.tmp 6):=e3
   replace e4:o.guard=some (58,true):=e4
   have evg:a.tmps.getD 126 undef=.bool (bk c 6):=hI.val 58 126 (by decide) rfl
   obtain⟨og,g1,g2,_,_⟩:=OP 58 (some 126,.move (.tmp 125),none) rfl
   refine wGu (v:=.int .i64 NE) ho e4 g1 g2 (by omega) evg (fun HB=>⟨?_,by rw[e2];exact hI.put hi rfl (by omega) (fun _=>rfl) ⟩) (fun HB=>by rw[e2];exact hI.put hi rfl (by omega) (fun h=>by rw[HB] at h;cases h) )
   have ev6:a.tmps.getD 6 undef=.int .i64 NE:=(ke 6 (by decide)).trans h6
   simp[execOp,e3,ev,ev6]
  ·replace e2:o.dst=some 131:=e2
   replace e3:o.op=.binOp .eql 3 (.tmp 129) (.tmp 130) 3:=e3
   replace e4:o.guard=some (58,true):=e4
   have evg:a.tmps.getD 126 undef=.bool (bk c 6):=hI.val 58 126 (by decide) rfl
   obtain⟨og,g1,g2,_,_⟩:=OP 58 (some 126,.move (.tmp 125),none) rfl
   refine wGu (v:=.bool (c 7)) ho e4 g1 g2 (by omega) evg (fun HB=>⟨?_,by rw[e2];exact hI.put hi rfl (by omega) (fun _=>rfl) ⟩) (fun HB=>by rw[e2];exact hI.put hi rfl (by omega) (fun h=>by rw[HB] at h;cases h) )
   have ev129:a.tmps.getD 129 undef=.int .i64 ((Y 7).n:Int):=hI.val 61 129 (by decide) rfl HB
   have ev130:a.tmps.getD 130 undef=.int .i64 NE:=hI.val 62 130 (by decide) rfl HB
   simp[execOp,e3,ev,ev129,ev130,eqGuard,run_eql,k7]
  ·replace e2:o.dst=some 132:=e2
   replace e3:o.op=.pick (.tmp 126) (.tmp 131) (.const (.bool false)):=e3
   replace e4:o.guard=none:=e4
   have ev126:a.tmps.getD 126 undef=.bool (bk c 6):=hI.val 58 126 (by decide) rfl
   refine wVa (v:=.bool (bk c 7)) (w':=w) ho e4 ?_ (by rw[e2];exact hI.put hi rfl (by omega) rfl )
   cases HB:bk c 6 with
   | true =>
    have ev131:a.tmps.getD 131 undef=.bool (c 7):=hI.val 63 131 (by decide) rfl HB
    simp[execOp,e3,ev,ev126,ev131,HB,asBool,show bk c 7=(bk c 6 && c 7) from rfl]
   | false =>
    simp[execOp,e3,ev,ev126,HB,asBool,show bk c 7=(bk c 6 && c 7) from rfl,show a.eval (.const (.bool false))=.bool false from rfl]
  ·replace e2:o.dst=some 133:=e2
   replace e3:o.op=.move (.tmp 132):=e3
   replace e4:o.guard=none:=e4
   have ev132:a.tmps.getD 132 undef=.bool (bk c 7):=hI.val 64 132 (by decide) rfl
   refine wVa (v:=.bool (bk c 7)) (w':=w) ho e4 ?_ (by rw[e2];exact hI.put hi rfl (by omega) rfl )
   simp[execOp,e3,ev,ev132]
  ·replace e2:o.dst=some 134:=e2
   replace e3:o.op=.fieldAddr 65 (.tmp 8) 8:=e3
   replace e4:o.guard=some (65,true):=e4
   have evg:a.tmps.getD 133 undef=.bool (bk c 7):=hI.val 65 133 (by decide) rfl
   obtain⟨og,g1,g2,_,_⟩:=OP 65 (some 133,.move (.tmp 132),none) rfl
   refine wGu (v:=.pointer (some ⟨lb,8,none⟩)) ho e4 g1 g2 (by omega) evg (fun HB=>⟨?_,by rw[e2];exact hI.put hi rfl (by omega) (fun _=>rfl) ⟩) (fun HB=>by rw[e2];exact hI.put hi rfl (by omega) (fun h=>by rw[HB] at h;cases h) )
   have ev8:a.tmps.getD 8 undef=.pointer (some ⟨lb,0,none⟩):=(ke 8 (by decide)).trans h8
   simp[execOp,e3,ev,ev8,run_field lb 8 (by decide)]
  ·replace e2:o.dst=some 135:=e2
   replace e3:o.op=.load 63 (.tmp 134):=e3
   replace e4:o.guard=some (65,true):=e4
   have evg:a.tmps.getD 133 undef=.bool (bk c 7):=hI.val 65 133 (by decide) rfl
   obtain⟨og,g1,g2,_,_⟩:=OP 65 (some 133,.move (.tmp 132),none) rfl
   refine wGu (v:=.slice (Y 8).a (Y 8).n (Y 8).c) ho e4 g1 g2 (by omega) evg (fun HB=>⟨?_,by rw[e2];exact hI.put hi rfl (by omega) (fun _=>rfl) ⟩) (fun HB=>by rw[e2];exact hI.put hi rfl (by omega) (fun h=>by rw[HB] at h;cases h) )
   have ev134:a.tmps.getD 134 undef=.pointer (some ⟨lb,8,none⟩):=hI.val 66 134 (by decide) rfl HB
   simp[execOp,e3,ev,ev134,run_load63 (qb.cell 8 rfl)]
  ·replace e2:o.dst=some 136:=e2
   replace e3:o.op=.call { callee:=.builtin .len,args:=#[.tmp 135],argTypes:=#[63] }:=e3
   replace e4:o.guard=some (65,true):=e4
   have evg:a.tmps.getD 133 undef=.bool (bk c 7):=hI.val 65 133 (by decide) rfl
   obtain⟨og,g1,g2,_,_⟩:=OP 65 (some 133,.move (.tmp 132),none) rfl
   refine wGu (v:=.int .i64 ((Y 8).n:Int)) ho e4 g1 g2 (by omega) evg (fun HB=>⟨?_,by rw[e2];exact hI.put hi rfl (by omega) (fun _=>rfl) ⟩) (fun HB=>by rw[e2];exact hI.put hi rfl (by omega) (fun h=>by rw[HB] at h;cases h) )
   have ev135:a.tmps.getD 135 undef=.slice (Y 8).a (Y 8).n (Y 8).c:=hI.val 67 135 (by decide) rfl HB
   exact exec_len (by decide) e3 ev135 w
  ·replace e2:o.dst=some 137:=e2
   replace e3:o.op=.move (.tmp 6):=e3
   replace e4:o.guard=some (65,true):=e4
   have evg:a.tmps.getD 133 undef=.bool (bk c 7):=hI.val 65 133 (by decide) rfl
   obtain⟨og,g1,g2,_,_⟩:=OP 65 (some 133,.move (.tmp 132),none) rfl
   refine wGu (v:=.int .i64 NE) ho e4 g1 g2 (by omega) evg (fun HB=>⟨?_,by rw[e2];exact hI.put hi rfl (by omega) (fun _=>rfl) ⟩) (fun HB=>by rw[e2];exact hI.put hi rfl (by omega) (fun h=>by rw[HB] at h;cases h) )
   have ev6:a.tmps.getD 6 undef=.int .i64 NE:=(ke 6 (by decide)).trans h6
   simp[execOp,e3,ev,ev6]
  ·replace e2:o.dst=some 138:=e2
   replace e3:o.op=.binOp .eql 3 (.tmp 136) (.tmp 137) 3:=e3
   replace e4:o.guard=some (65,true):=e4
   have evg:a.tmps.getD 133 undef=.bool (bk c 7):=hI.val 65 133 (by decide) rfl
   obtain⟨og,g1,g2,_,_⟩:=OP 65 (some 133,.move (.tmp 132),none) rfl
   refine wGu (v:=.bool (c 8)) ho e4 g1 g2 (by omega) evg (fun HB=>⟨?_,by rw[e2];exact hI.put hi rfl (by omega) (fun _=>rfl) ⟩) (fun HB=>by rw[e2];exact hI.put hi rfl (by omega) (fun h=>by rw[HB] at h;cases h) )
   have ev136:a.tmps.getD 136 undef=.int .i64 ((Y 8).n:Int):=hI.val 68 136 (by decide) rfl HB
   have ev137:a.tmps.getD 137 undef=.int .i64 NE:=hI.val 69 137 (by decide) rfl HB
   simp[execOp,e3,ev,ev136,ev137,eqGuard,run_eql,k8]
  ·replace e2:o.dst=some 139:=e2
   replace e3:o.op=.pick (.tmp 133) (.tmp 138) (.const (.bool false)):=e3
   replace e4:o.guard=none:=e4
   have ev133:a.tmps.getD 133 undef=.bool (bk c 7):=hI.val 65 133 (by decide) rfl
   refine wVa (v:=.bool (bk c 8)) (w':=w) ho e4 ?_ (by rw[e2];exact hI.put hi rfl (by omega) rfl )
   cases HB:bk c 7 with
   | true =>
    have ev138:a.tmps.getD 138 undef=.bool (c 8):=hI.val 70 138 (by decide) rfl HB
    simp[execOp,e3,ev,ev133,ev138,HB,asBool,show bk c 8=(bk c 7 && c 8) from rfl]
   | false =>
    simp[execOp,e3,ev,ev133,HB,asBool,show bk c 8=(bk c 7 && c 8) from rfl,show a.eval (.const (.bool false))=.bool false from rfl]
  ·replace e2:o.dst=some 5:=e2
   replace e3:o.op=.assign (.tmp 139):=e3
   replace e4:o.guard=none:=e4
   have ev139:a.tmps.getD 139 undef=.bool (bk c 8):=hI.val 71 139 (by decide) rfl
   refine wVa (v:=.bool (bk c 8)) (w':=w) ho e4 ?_ (by rw[e2];exact hI.put hi rfl (by omega) rfl )
   simp[execOp,e3,ev,ev139]
 ·intro a w hI
  rw[hsz] at hI
  exact fin a w hI.size hI.defers hI.kept (hI.val 72 5 (by decide) rfl) hI.w_
end Go.Proofs.YthliomlmhfjhnaaGreat

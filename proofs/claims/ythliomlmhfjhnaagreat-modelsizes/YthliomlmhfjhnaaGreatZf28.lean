/- Texts put together. -/
import Derived.Test.YthliomlmhfjhnaaGreatRows
import Derived.Test.YthliomlmhfjhnaaGreatZf24
namespace Go.Proofs.YthliomlmhfjhnaaGreat
set_option maxRecDepth 20000
set_option maxHeartbeats 16000000
open Go.ChangeShapes Go.WideShapes Go.ChangeAt Go.RowKit
set_option linter.unusedVariables false
set_option linter.unusedSimpArgs false
section
theorem partL_congr {P P':Nat→List Int}{c f d:Nat}{last last':List Int}(h:∀ r,r<c→P r=P' r)(hl:last=last'):partL P c f d last=partL P' c f d last':=by
 funext r
 unfold partL
 by_cases hr:r<c
 ·rw[if_pos hr,if_pos hr,h r hr]
 ·rw[if_neg hr,if_neg hr,hl]
theorem oL_congr (M:Md)(p:Int){P P':Nat→List Int}{c:Nat}(h:∀ r,r<c→P r=P' r)(i:Nat)(x:List Int):oL M p P c i x=oL M p P' c i x:=by
 unfold oL keysL valsL
 rw[partL_congr h rfl,partL_congr h rfl]
theorem stX_congr (M:Md)(p:Int){P P':Nat→List Int}{c:Nat}(h:∀ r,r<c→P r=P' r)(tok k:Nat):stX M p P c tok k=stX M p P' c tok k:=by
 induction k with
 | zero=>rfl
 | succ k ih=>rw[stX,stX,ih,oL_congr M p h]
theorem stR_congr (M:Md)(p:Int){P P':Nat→List Int}{c:Nat}(h:∀ r,r<c→P r=P' r)(tok k:Nat):stR M p P c tok k=stR M p P' c tok k:=by
 induction k with
 | zero=>rfl
 | succ k ih=>rw[stR,stR,ih,stX_congr M p h]
theorem rowL_congr (M:Md)(p:Int){P P':Nat→List Int}{c:Nat}(h:∀ r,r<c→P r=P' r)(tok:Nat):rowL M p P c tok=rowL M p P' c tok:=stR_congr M p h tok _
theorem outL_congr (M:Md)(p:Int){P P':Nat→List Int}{c:Nat}(h:∀ r,r<c→P r=P' r)(tok:Nat):outL M p P c tok=outL M p P' c tok:=by unfold outL;rw[stX_congr M p h]
def saw (M:Md)(k:Nat):Nat:=(seeZ k M.n).toNat
theorem saw_le (M:Md)(k:Nat):saw M k≤k:=by
 unfold saw seeZ
 split
 ·omega
 ·split<;>omega
theorem saw_int (M:Md)(k:Nat):seeZ k M.n=(saw M k:Int):=by
 unfold saw seeZ
 split
 ·rfl
 ·split
  ·rfl
  ·omega
def runF (M:Md)(T:Nat→Nat):Nat→Nat→List Int × List Int
 | 0,_=>([],[])
 | k+1,j=>if j<k then runF M T k j else (rowL M k (fun r=>(runF M T k (saw M k+r)).1) (k-saw M k) (T k),outL M k (fun r=>(runF M T k (saw M k+r)).1) (k-saw M k) (T k))
def rowF (M:Md)(T:Nat→Nat)(j:Nat):List Int:=(runF M T (j+1) j).1
def outF (M:Md)(T:Nat→Nat)(j:Nat):List Int:=(runF M T (j+1) j).2
def seenF (M:Md)(T:Nat→Nat)(k r:Nat):List Int:=rowF M T (saw M k+r)
theorem runF_eq (M:Md)(T:Nat→Nat)(k j:Nat)(h:j<k):runF M T k j=runF M T (j+1) j:=by
 induction k with
 | zero=>omega
 | succ k ih =>
  by_cases e:j=k
  ·subst e;rfl
  ·rw[runF,if_pos (by omega)]
   exact ih (by omega)
theorem rowF_eq (M:Md)(T:Nat→Nat)(k:Nat):rowF M T k=rowL M k (seenF M T k) (k-saw M k) (T k):=by
 unfold rowF
 rw[runF,if_neg (by omega)]
 exact rowL_congr M k (fun r hr=>by rw[runF_eq M T k _ (by omega)];rfl) _
theorem outF_eq (M:Md)(T:Nat→Nat)(k:Nat):outF M T k=outL M k (seenF M T k) (k-saw M k) (T k):=by
 unfold outF
 rw[runF,if_neg (by omega)]
 exact outL_congr M k (fun r hr=>by rw[runF_eq M T k _ (by omega)];rfl) _
theorem rowF_length {M:Md}(F:MdFit M)(T:Nat→Nat)(k:Nat):(rowF M T k).length=2*M.m.ln*M.D:=by
 rw[rowF_eq]
 exact stR_length F _ _ _ _ _ (Nat.le_refl _)
theorem outF_length (M:Md)(T:Nat→Nat)(k:Nat):(outF M T k).length=M.D:=by
 rw[outF_eq]
 exact rmsZ_length _ _ _
theorem in_rowF (M:Md)(T:Nat→Nat)(k:Nat):∀ z∈rowF M T k,In32 z:=by
 rw[rowF_eq]
 exact in_stR _ _ _ _ _ _
theorem runF_congr (M:Md){T T':Nat→Nat}{n:Nat}(h:∀ j,j<n→T j=T' j)(k:Nat)(hk:k≤n):∀ j,runF M T k j=runF M T' k j:=by
 induction k with
 | zero=>intro j;rfl
 | succ k ih =>
  intro j
  have e:=ih (by omega)
  rw[runF,runF,e j,h k (by omega)]
  simp only[e]
theorem rowF_congr (M:Md){T T':Nat→Nat}{n:Nat}(h:∀ j,j<n→T j=T' j){k:Nat}(hk:k<n):rowF M T k=rowF M T' k:=by
 unfold rowF
 rw[runF_congr M h (k+1) (by omega)]
theorem outF_congr (M:Md){T T':Nat→Nat}{n:Nat}(h:∀ j,j<n→T j=T' j){k:Nat}(hk:k<n):outF M T k=outF M T' k:=by
 unfold outF
 rw[runF_congr M h (k+1) (by omega)]
def tokF (ts:List Int)(k:Nat):Nat:=(ts.getD k 0).toNat
def tokB (M:Md)(ts:List Int)(k:Nat):Bool:=decide (0≤ts.getD k 0) && decide (ts.getD k 0<M.v)
def runB (M:Md)(ts:List Int)(n:Nat):Bool:=decide (n≤24) && (List.range n).all (tokB M ts)
theorem runB_yes {M:Md}{ts:List Int}{n:Nat}(h:runB M ts n=true):n≤24∧∀ k,k<n→0≤ts.getD k 0∧ts.getD k 0<M.v:=by
 unfold runB at h
 rw[Bool.and_eq_true,decide_eq_true_eq,List.all_eq_true] at h
 refine⟨h.1,fun k hk=>?_⟩
 have:=h.2 k (List.mem_range.2 hk)
 unfold tokB at this
 simpa [Bool.and_eq_true] using this
theorem runB_no {M:Md}{ts:List Int}{n:Nat}(h:runB M ts n=false):∃ J,J<n∧J≤24∧(∀ k,k<J→0≤ts.getD k 0∧ts.getD k 0<M.v)∧(J=24∨¬(0≤ts.getD J 0∧ts.getD J 0<M.v)):=by
 have key:∀ m,(∀ k,k<m→0≤ts.getD k 0∧ts.getD k 0<M.v)∨∃ J,J<m∧(∀ k,k<J→0≤ts.getD k 0∧ts.getD k 0<M.v)∧¬(0≤ts.getD J 0∧ts.getD J 0<M.v):=by
  intro m
  induction m with
  | zero=>exact .inl (fun k hk=>by omega)
  | succ m ih =>
   rcases ih with ih|⟨J,h1,h2,h3⟩
   ·by_cases hm:0≤ts.getD m 0∧ts.getD m 0<M.v
    ·refine .inl (fun k hk=>?_)
     by_cases e:k=m
     ·subst e;exact hm
     ·exact ih k (by omega)
    ·exact .inr ⟨m,by omega,ih,hm⟩
   ·exact .inr ⟨J,by omega,h2,h3⟩
 by_cases hn:n≤24
 ·rcases key n with k1|⟨J,h1,h2,h3⟩
  ·exfalso
   unfold runB at h
   rw[decide_eq_true hn,Bool.true_and] at h
   have:(List.range n).all (tokB M ts)=true:=List.all_eq_true.2 (fun k hk=>by
    unfold tokB
    have:=k1 k (List.mem_range.1 hk)
    rw[decide_eq_true this.1,decide_eq_true this.2]
    rfl)
   rw[this] at h
   cases h
  ·exact⟨J,h1,by omega,h2,.inr h3⟩
 ·rcases key 24 with k1|⟨J,h1,h2,h3⟩
  ·exact⟨24,by omega,by omega,k1,.inl rfl⟩
  ·exact⟨J,by omega,by omega,h2,.inr h3⟩
end
section
def lkD (i:Nat):Option Nat:=match i with|0=>some 17|1=>some 18|2=>some 19|3=>some 20|4=>some 21|5=>some 22|6=>some 23|7=>some 13|8=>some 14|_=>none
theorem lkD_inj:∀ i,i<11→∀ j,j<11→lkD i=lkD j→lkD i≠none→i=j:=by decide
theorem lkD_lt:∀ i,i<11→∀ d,lkD i=some d→d<118:=by
 intro i hi d h
 have:∀ i,i<11→(lkD i).all (fun d=>decide (d<118))=true:=by decide
 have:=this i hi
 rw[h] at this
 simpa using this
def lkF (g:Nat)(M:Md)(E L N O:SL)(Y:Nat→Nat→SL)(B i:Nat)(x:Addr)(k:Nat→Bool)(j:Nat)(q:Value)(w:World):Prop:=match j with
 | 0=>q=.pointer (some ⟨B,0,none⟩)
 | 1=>q=.agg #[.int .i64 M.d,.int .i64 M.h,.int .i64 M.l,.int .i64 M.v,.int .i64 M.u,.int .i64 M.x,.int .i64 M.t,.int .i64 M.n]
 | 2=>q=.pointer (some ⟨B,9,none⟩)
 | 3=>q=.slice (some x) M.m.ln L.c
 | 4=>q=.int .i64 i
 | 5=>q=.pointer (some (x.add (i*9)))
 | 6=>q=.agg #[.slice (Y i 0).a (Y i 0).n (Y i 0).c,.slice (Y i 1).a (Y i 1).n (Y i 1).c,.slice (Y i 2).a (Y i 2).n (Y i 2).c,.slice (Y i 3).a (Y i 3).n (Y i 3).c,.slice (Y i 4).a (Y i 4).n (Y i 4).c,.slice (Y i 5).a (Y i 5).n (Y i 5).c,.slice (Y i 6).a (Y i 6).n (Y i 6).c,.slice (Y i 7).a (Y i 7).n (Y i 7).c,.slice (Y i 8).a (Y i 8).n (Y i 8).c]
 | 7=>∃ b,q=.pointer (some ⟨b,0,none⟩)∧g≤b∧Blk 23 w b (cond (k 9) #[.int .i64 M.d,.int .i64 M.h,.int .i64 M.l,.int .i64 M.v,.int .i64 M.u,.int .i64 M.x,.int .i64 M.t,.int .i64 M.n] #[.int .i64 0,.int .i64 0,.int .i64 0,.int .i64 0,.int .i64 0,.int .i64 0,.int .i64 0,.int .i64 0])
 | 8=>∃ b,q=.pointer (some ⟨b,0,none⟩)∧g≤b∧Blk 65 w b (cond (k 10) #[.slice (Y i 0).a (Y i 0).n (Y i 0).c,.slice (Y i 1).a (Y i 1).n (Y i 1).c,.slice (Y i 2).a (Y i 2).n (Y i 2).c,.slice (Y i 3).a (Y i 3).n (Y i 3).c,.slice (Y i 4).a (Y i 4).n (Y i 4).c,.slice (Y i 5).a (Y i 5).n (Y i 5).c,.slice (Y i 6).a (Y i 6).n (Y i 6).c,.slice (Y i 7).a (Y i 7).n (Y i 7).c,.slice (Y i 8).a (Y i 8).n (Y i 8).c] #[.slice none 0 0,.slice none 0 0,.slice none 0 0,.slice none 0 0,.slice none 0 0,.slice none 0 0,.slice none 0 0,.slice none 0 0,.slice none 0 0])
 | _=>True
theorem lk_region {id:Nat}{ops:Array Oper}{Q:Exit→Act→World→Prop}{a0:Act}{w0:World}(M:Md)(E L N O:SL)(Y:Nat→Nat→SL)(B i:Nat)(x:Addr)(U D:Nat→Nat→SL)(hM:ModAt w0 E L N O Y U D M.m)(hx:L.a=some x)(hi':i<M.m.ln)(hB:Blk 27 w0 B #[.int .i64 M.d,.int .i64 M.h,.int .i64 M.l,.int .i64 M.v,.int .i64 M.u,.int .i64 M.x,.int .i64 M.t,.int .i64 M.n,.slice E.a E.n E.c,.slice (some x) M.m.ln L.c,.slice N.a N.n N.c,.slice O.a O.n O.c])
  (hlow:lowB ops=true) (hsz:ops.size=11)
  (o0:OpIn ops 0 (some 17) (.fieldAddr 27 (.tmp 5) 0) none []) (o1:OpIn ops 1 (some 18) (.load 23 (.tmp 17)) none [0]) (o2:OpIn ops 2 (some 19) (.fieldAddr 27 (.tmp 5) 2) none []) (o3:OpIn ops 3 (some 20) (.load 25 (.tmp 19)) none [2]) (o4:OpIn ops 4 (some 21) (.move (.tmp 2)) none []) (o5:OpIn ops 5 (some 22) (.indexAddr 25 (.tmp 20) (.tmp 21)) none [3,4]) (o6:OpIn ops 6 (some 23) (.load 65 (.tmp 22)) none [5]) (o7:OpIn ops 7 (some 13) (.alloc 23) none []) (o8:OpIn ops 8 (some 14) (.alloc 65) none []) (o9:OpIn ops 9 none (.store 23 (.tmp 13) (.tmp 18)) none [1,7]) (o10:OpIn ops 10 none (.store 65 (.tmp 14) (.tmp 23)) none [6,8])
  (ub:a0.tmps.getD 5 undef=.pointer (some ⟨B,0,none⟩)) (ui:a0.tmps.getD 2 undef=.int .i64 i)
  (hs:118≤a0.tmps.size)
  (fin:∀ a w cb lb,a.tmps.size=a0.tmps.size→a.defers=a0.defers→(∀ s,(∀ i,i<11→lkD i≠some s)→a.tmps.getD s undef=a0.tmps.getD s undef)→a.tmps.getD 13 undef=.pointer (some ⟨cb,0,none⟩)→a.tmps.getD 14 undef=.pointer (some ⟨lb,0,none⟩)→Below w0.heap.size w0 w→Blk 23 w cb #[.int .i64 M.d,.int .i64 M.h,.int .i64 M.l,.int .i64 M.v,.int .i64 M.u,.int .i64 M.x,.int .i64 M.t,.int .i64 M.n]→Blk 65 w lb #[.slice (Y i 0).a (Y i 0).n (Y i 0).c,.slice (Y i 1).a (Y i 1).n (Y i 1).c,.slice (Y i 2).a (Y i 2).n (Y i 2).c,.slice (Y i 3).a (Y i 3).n (Y i 3).c,.slice (Y i 4).a (Y i 4).n (Y i 4).c,.slice (Y i 5).a (Y i 5).n (Y i 5).c,.slice (Y i 6).a (Y i 6).n (Y i 6).c,.slice (Y i 7).a (Y i 7).n (Y i 7).c,.slice (Y i 8).a (Y i 8).n (Y i 8).c]→Q .normal a w):(Code.region id ops true).wp Tryz.prog Q a0 w0:=by
 refine wp_region_inv2 (by kernel_rfl) hlow (Inv 11 lkD a0 (fun _ _ w=>Below w0.heap.size w0 w) (lkF w0.heap.size M E L N O Y B i x)) (Inv.start (Below.refl _ _).drew) ?_ ?_
 ·intro k i' o a w ho hl hcl hdep hI
  have hi:i'<11:=by rw[←hsz];exact (Array.getElem?_eq_some_iff.1 ho).1
  have ev:∀ (s:Nat),a.eval (.tmp s)=a.tmps.getD s undef:=fun _=>rfl
  have inj:∀ d,lkD i'=some d→∀ j d',j<11→lkD j=some d'→j≠i'→d'≠d:=fun d hd j d' hj hd' hne e=>hne (lkD_inj j hj i' hi (by rw[hd',hd,e]) (by rw[hd'];simp))
  have kp:∀ s,(∀ i,i<11→lkD i≠some s)→a.tmps.getD s undef=a0.tmps.getD s undef:=hI.kept
  have hw:Below w0.heap.size w0 w:=hI.world
  have oth:∀ j,j≠i'→(k j || j==i')=k j:=fun j hj=>by rw[show (j==i')=false by simp[hj],Bool.or_false]
  have sam:(k i' || i'==i')=true:=by simp
  have U1:a.tmps.getD 5 undef=.pointer (some ⟨B,0,none⟩):=(kp 5 (by decide)).trans ub
  have U2:a.tmps.getD 2 undef=.int .i64 i:=(kp 2 (by decide)).trans ui
  have qB:=hB.kept hw
  have hM':=hM.below hw
  have go:∀ {d:Nat}{v:Value}{w':World},lkD i'=some d→i'≠9∧i'≠10→Below w.heap.size w w'→lkF w0.heap.size M E L N O Y B i x (fun j=>k j || j==i') i' v w'→Inv 11 lkD a0 (fun _ _ w=>Below w0.heap.size w0 w) (lkF w0.heap.size M E L N O Y B i x) (fun j=>k j || j==i') (a.put (some d) v) w':=by
   intro d v w' hD hn hb hF
   refine hI.put hi hD (Nat.lt_of_lt_of_le (lkD_lt i' hi d hD) hs) (inj d hD) (bTn hw hb) hF (fun j u hj _ _ hf=>?_)
   unfold lkF at hf ⊢
   dsimp only
   rw[oth 9 (fun e=>hn.1 e.symm),oth 10 (fun e=>hn.2 e.symm)]
   rcases (show j=0∨j=1∨j=2∨j=3∨j=4∨j=5∨j=6∨j=7∨j=8∨j=9∨j=10 by omega) with rfl|rfl|rfl|rfl|rfl|rfl|rfl|rfl|rfl|rfl|rfl<;>first
    | exact hf
    | (obtain⟨b,q1,q0,q2⟩:=hf;exact⟨b,q1,q0,q2.kept hb⟩)
  rcases (show i'=0∨i'=1∨i'=2∨i'=3∨i'=4∨i'=5∨i'=6∨i'=7∨i'=8∨i'=9∨i'=10 by omega) with rfl|rfl|rfl|rfl|rfl|rfl|rfl|rfl|rfl|rfl|rfl
  ·obtain⟨o',e1,e2,e3,e4,e5⟩:=o0
   obtain rfl:=sOp ho e1
   have dp:=dPo e5 hdep
   exact wVa (v:=.pointer (some ⟨B,0,none⟩)) (w':=w) ho e4 (by simp[execOp,e3,ev,U1,run_field27 B 0 0 (by omega)]) (by rw[e2];exact go rfl (by decide) (Below.refl _ _) rfl)
  ·obtain⟨o',e1,e2,e3,e4,e5⟩:=o1
   obtain rfl:=sOp ho e1
   have dp:=dPo e5 hdep
   have V0:a.tmps.getD 17 undef=.pointer (some ⟨B,0,none⟩):=hI.val 0 17 (by decide) rfl (dp 0 (by decide))
   exact wVa (v:=.agg #[.int .i64 M.d,.int .i64 M.h,.int .i64 M.l,.int .i64 M.v,.int .i64 M.u,.int .i64 M.x,.int .i64 M.t,.int .i64 M.n]) (w':=w) ho e4 (by simp[execOp,e3,ev,V0,run_cfg12 qB]) (by rw[e2];exact go rfl (by decide) (Below.refl _ _) rfl)
  ·obtain⟨o',e1,e2,e3,e4,e5⟩:=o2
   obtain rfl:=sOp ho e1
   have dp:=dPo e5 hdep
   exact wVa (v:=.pointer (some ⟨B,9,none⟩)) (w':=w) ho e4 (by simp[execOp,e3,ev,U1,run_field27 B 2 9 (by omega)]) (by rw[e2];exact go rfl (by decide) (Below.refl _ _) rfl)
  ·obtain⟨o',e1,e2,e3,e4,e5⟩:=o3
   obtain rfl:=sOp ho e1
   have dp:=dPo e5 hdep
   have V2:a.tmps.getD 19 undef=.pointer (some ⟨B,9,none⟩):=hI.val 2 19 (by decide) rfl (dp 2 (by decide))
   have c9:w.cell? ⟨B,9,none⟩=some (.slice (some x) M.m.ln L.c):=qB.cell 9 rfl
   exact wVa (v:=.slice (some x) M.m.ln L.c) (w':=w) ho e4 (by simp[execOp,e3,ev,V2,run_load25 c9]) (by rw[e2];exact go rfl (by decide) (Below.refl _ _) rfl)
  ·obtain⟨o',e1,e2,e3,e4,e5⟩:=o4
   obtain rfl:=sOp ho e1
   have dp:=dPo e5 hdep
   exact wVa (v:=.int .i64 i) (w':=w) ho e4 (by simp[execOp,e3,ev,U2]) (by rw[e2];exact go rfl (by decide) (Below.refl _ _) rfl)
  ·obtain⟨o',e1,e2,e3,e4,e5⟩:=o5
   obtain rfl:=sOp ho e1
   have dp:=dPo e5 hdep
   have V3:a.tmps.getD 20 undef=.slice (some x) M.m.ln L.c:=hI.val 3 20 (by decide) rfl (dp 3 (by decide))
   have V4:a.tmps.getD 21 undef=.int .i64 i:=hI.val 4 21 (by decide) rfl (dp 4 (by decide))
   exact wVa (v:=.pointer (some (x.add (i*9)))) (w':=w) ho e4 (by simp[execOp,e3,ev,V3,V4,run_index25 hi' w]) (by rw[e2];exact go rfl (by decide) (Below.refl _ _) rfl)
  ·obtain⟨o',e1,e2,e3,e4,e5⟩:=o6
   obtain rfl:=sOp ho e1
   have dp:=dPo e5 hdep
   have V5:a.tmps.getD 22 undef=.pointer (some (x.add (i*9))):=hI.val 5 22 (by decide) rfl (dp 5 (by decide))
   exact wVa (v:=.agg #[.slice (Y i 0).a (Y i 0).n (Y i 0).c,.slice (Y i 1).a (Y i 1).n (Y i 1).c,.slice (Y i 2).a (Y i 2).n (Y i 2).c,.slice (Y i 3).a (Y i 3).n (Y i 3).c,.slice (Y i 4).a (Y i 4).n (Y i 4).c,.slice (Y i 5).a (Y i 5).n (Y i 5).c,.slice (Y i 6).a (Y i 6).n (Y i 6).c,.slice (Y i 7).a (Y i 7).n (Y i 7).c,.slice (Y i 8).a (Y i 8).n (Y i 8).c]) (w':=w) ho e4 (by simp[execOp,e3,ev,V5,run_load65 (y:=Y i) (fun j hj=>hM'.cell x hx i hi' j hj)]) (by rw[e2];exact go rfl (by decide) (Below.refl _ _) rfl)
  ·obtain⟨o',e1,e2,e3,e4,e5⟩:=o7
   obtain rfl:=sOp ho e1
   have dp:=dPo e5 hdep
   have nd:k 9=false:=by
    cases e:k 9 with
    | false=>rfl
    | true =>
     have y:=hcl.dep' o9 e 7 (by decide)
     rw[hl] at y
     cases y
   refine wVa (v:=.pointer (some ⟨w.heap.size,0,none⟩)) (w':=w.alloc (.cells #[.int .i64 0,.int .i64 0,.int .i64 0,.int .i64 0,.int .i64 0,.int .i64 0,.int .i64 0,.int .i64 0] 23)) ho e4 (by simp[execOp,e3,run_alloc23]) ?_
   rw[e2]
   refine go rfl (by decide) (bNw (Below.refl _ _) _) ⟨w.heap.size,rfl,hw.size,?_⟩
   dsimp only
   rw[oth 9 (by decide),nd]
   exact Blk.new 23 w _
  ·obtain⟨o',e1,e2,e3,e4,e5⟩:=o8
   obtain rfl:=sOp ho e1
   have dp:=dPo e5 hdep
   have nd:k 10=false:=by
    cases e:k 10 with
    | false=>rfl
    | true =>
     have y:=hcl.dep' o10 e 8 (by decide)
     rw[hl] at y
     cases y
   refine wVa (v:=.pointer (some ⟨w.heap.size,0,none⟩)) (w':=w.alloc (.cells #[.slice none 0 0,.slice none 0 0,.slice none 0 0,.slice none 0 0,.slice none 0 0,.slice none 0 0,.slice none 0 0,.slice none 0 0,.slice none 0 0] 65)) ho e4 (by simp[execOp,e3,run_alloc65]) ?_
   rw[e2]
   refine go rfl (by decide) (bNw (Below.refl _ _) _) ⟨w.heap.size,rfl,hw.size,?_⟩
   dsimp only
   rw[oth 10 (by decide),nd]
   exact Blk.new 65 w _
  ·obtain⟨o',e1,e2,e3,e4,e5⟩:=o9
   obtain rfl:=sOp ho e1
   have dp:=dPo e5 hdep
   have V1:a.tmps.getD 18 undef=.agg #[.int .i64 M.d,.int .i64 M.h,.int .i64 M.l,.int .i64 M.v,.int .i64 M.u,.int .i64 M.x,.int .i64 M.t,.int .i64 M.n]:=hI.val 1 18 (by decide) rfl (dp 1 (by decide))
   obtain⟨b,V7,bge,q⟩:∃ b,a.tmps.getD 13 undef=.pointer (some ⟨b,0,none⟩)∧w0.heap.size≤b∧Blk 23 w b (cond (k 9) #[.int .i64 M.d,.int .i64 M.h,.int .i64 M.l,.int .i64 M.v,.int .i64 M.u,.int .i64 M.x,.int .i64 M.t,.int .i64 M.n] #[.int .i64 0,.int .i64 0,.int .i64 0,.int .i64 0,.int .i64 0,.int .i64 0,.int .i64 0,.int .i64 0]):=hI.val 7 13 (by decide) rfl (dp 7 (by decide))
   rw[hl] at q
   obtain⟨w',r',q',on⟩:=run_store23 q M.d M.h M.l M.v M.u M.x M.t M.n
   refine wSk (w':=w') ho e4 (by simp[execOp,e3,ev,V7,V1,r']) ?_
   rw[e2]
   refine Inv.none_' hI rfl (Only.below hw bge hw.size on) (fun j dd hj hD hkj hne hf=>?_)
   rcases (show j=0∨j=1∨j=2∨j=3∨j=4∨j=5∨j=6∨j=7∨j=8∨j=9∨j=10 by omega) with rfl|rfl|rfl|rfl|rfl|rfl|rfl|rfl|rfl|rfl|rfl
   ·exact hf
   ·exact hf
   ·exact hf
   ·exact hf
   ·exact hf
   ·exact hf
   ·exact hf
   ·obtain⟨b2,p1,p0,p2⟩:=hf
    have eb:b2=b:=by
     obtain rfl:=Option.some.inj hD
     have:=V7.symm.trans p1
     simp at this
     exact this.symm
    subst eb
    refine⟨b2,p1,p0,?_⟩
    dsimp only
    rw[sam]
    exact q'
   ·obtain⟨b2,p1,p0,p2⟩:=hf
    refine⟨b2,p1,p0,?_⟩
    dsimp only
    rw[oth 10 (by decide)]
    exact p2.only on (p2.apart q (by decide))
   ·trivial
   ·trivial
  ·obtain⟨o',e1,e2,e3,e4,e5⟩:=o10
   obtain rfl:=sOp ho e1
   have dp:=dPo e5 hdep
   have V6:a.tmps.getD 23 undef=.agg #[.slice (Y i 0).a (Y i 0).n (Y i 0).c,.slice (Y i 1).a (Y i 1).n (Y i 1).c,.slice (Y i 2).a (Y i 2).n (Y i 2).c,.slice (Y i 3).a (Y i 3).n (Y i 3).c,.slice (Y i 4).a (Y i 4).n (Y i 4).c,.slice (Y i 5).a (Y i 5).n (Y i 5).c,.slice (Y i 6).a (Y i 6).n (Y i 6).c,.slice (Y i 7).a (Y i 7).n (Y i 7).c,.slice (Y i 8).a (Y i 8).n (Y i 8).c]:=hI.val 6 23 (by decide) rfl (dp 6 (by decide))
   obtain⟨b,V8,bge,q⟩:∃ b,a.tmps.getD 14 undef=.pointer (some ⟨b,0,none⟩)∧w0.heap.size≤b∧Blk 65 w b (cond (k 10) #[.slice (Y i 0).a (Y i 0).n (Y i 0).c,.slice (Y i 1).a (Y i 1).n (Y i 1).c,.slice (Y i 2).a (Y i 2).n (Y i 2).c,.slice (Y i 3).a (Y i 3).n (Y i 3).c,.slice (Y i 4).a (Y i 4).n (Y i 4).c,.slice (Y i 5).a (Y i 5).n (Y i 5).c,.slice (Y i 6).a (Y i 6).n (Y i 6).c,.slice (Y i 7).a (Y i 7).n (Y i 7).c,.slice (Y i 8).a (Y i 8).n (Y i 8).c] #[.slice none 0 0,.slice none 0 0,.slice none 0 0,.slice none 0 0,.slice none 0 0,.slice none 0 0,.slice none 0 0,.slice none 0 0,.slice none 0 0]):=hI.val 8 14 (by decide) rfl (dp 8 (by decide))
   rw[hl] at q
   obtain⟨w',r',q',on⟩:=run_store65 q (Y i)
   refine wSk (w':=w') ho e4 (by simp[execOp,e3,ev,V8,V6,r']) ?_
   rw[e2]
   refine Inv.none_' hI rfl (Only.below hw bge hw.size on) (fun j dd hj hD hkj hne hf=>?_)
   rcases (show j=0∨j=1∨j=2∨j=3∨j=4∨j=5∨j=6∨j=7∨j=8∨j=9∨j=10 by omega) with rfl|rfl|rfl|rfl|rfl|rfl|rfl|rfl|rfl|rfl|rfl
   ·exact hf
   ·exact hf
   ·exact hf
   ·exact hf
   ·exact hf
   ·exact hf
   ·exact hf
   ·obtain⟨b2,p1,p0,p2⟩:=hf
    refine⟨b2,p1,p0,?_⟩
    dsimp only
    rw[oth 9 (by decide)]
    exact p2.only on (p2.apart q (by decide))
   ·obtain⟨b2,p1,p0,p2⟩:=hf
    have eb:b2=b:=by
     obtain rfl:=Option.some.inj hD
     have:=V8.symm.trans p1
     simp at this
     exact this.symm
    subst eb
    refine⟨b2,p1,p0,?_⟩
    dsimp only
    rw[sam]
    exact q'
   ·trivial
   ·trivial
 ·intro k a w hall hI
  have all:∀ j,j<11→k j=true:=fun j hj=>hall j (by rw[hsz];exact hj)
  obtain⟨cb,v1,-,q1⟩:∃ b,a.tmps.getD 13 undef=.pointer (some ⟨b,0,none⟩)∧w0.heap.size≤b∧Blk 23 w b (cond (k 9) #[.int .i64 M.d,.int .i64 M.h,.int .i64 M.l,.int .i64 M.v,.int .i64 M.u,.int .i64 M.x,.int .i64 M.t,.int .i64 M.n] #[.int .i64 0,.int .i64 0,.int .i64 0,.int .i64 0,.int .i64 0,.int .i64 0,.int .i64 0,.int .i64 0]):=hI.val 7 13 (by decide) rfl (all 7 (by decide))
  obtain⟨lb,v2,-,q2⟩:∃ b,a.tmps.getD 14 undef=.pointer (some ⟨b,0,none⟩)∧w0.heap.size≤b∧Blk 65 w b (cond (k 10) #[.slice (Y i 0).a (Y i 0).n (Y i 0).c,.slice (Y i 1).a (Y i 1).n (Y i 1).c,.slice (Y i 2).a (Y i 2).n (Y i 2).c,.slice (Y i 3).a (Y i 3).n (Y i 3).c,.slice (Y i 4).a (Y i 4).n (Y i 4).c,.slice (Y i 5).a (Y i 5).n (Y i 5).c,.slice (Y i 6).a (Y i 6).n (Y i 6).c,.slice (Y i 7).a (Y i 7).n (Y i 7).c,.slice (Y i 8).a (Y i 8).n (Y i 8).c] #[.slice none 0 0,.slice none 0 0,.slice none 0 0,.slice none 0 0,.slice none 0 0,.slice none 0 0,.slice none 0 0,.slice none 0 0,.slice none 0 0]):=hI.val 8 14 (by decide) rfl (all 8 (by decide))
  rw[all 9 (by decide)] at q1
  rw[all 10 (by decide)] at q2
  exact fin a w cb lb hI.size hI.defers hI.kept v1 v2 hI.world q1 q2
def wkD (i:Nat):Option Nat:=match i with|0=>some 12|1=>some 13|2=>some 14|3=>some 15|4=>some 16|5=>some 17|6=>some 18|7=>some 9|8=>some 10|_=>none
theorem wkD_inj:∀ i,i<11→∀ j,j<11→wkD i=wkD j→wkD i≠none→i=j:=by decide
theorem wkD_lt:∀ i,i<11→∀ d,wkD i=some d→d<60:=by
 intro i hi d h
 have:∀ i,i<11→(wkD i).all (fun d=>decide (d<60))=true:=by decide
 have:=this i hi
 rw[h] at this
 simpa using this
def wkF (g:Nat)(M:Md)(E L N O:SL)(Y:Nat→Nat→SL)(B i:Nat)(x:Addr)(k:Nat→Bool)(j:Nat)(q:Value)(w:World):Prop:=match j with
 | 0=>q=.pointer (some ⟨B,0,none⟩)
 | 1=>q=.agg #[.int .i64 M.d,.int .i64 M.h,.int .i64 M.l,.int .i64 M.v,.int .i64 M.u,.int .i64 M.x,.int .i64 M.t,.int .i64 M.n]
 | 2=>q=.pointer (some ⟨B,9,none⟩)
 | 3=>q=.slice (some x) M.m.ln L.c
 | 4=>q=.int .i64 i
 | 5=>q=.pointer (some (x.add (i*9)))
 | 6=>q=.agg #[.slice (Y i 0).a (Y i 0).n (Y i 0).c,.slice (Y i 1).a (Y i 1).n (Y i 1).c,.slice (Y i 2).a (Y i 2).n (Y i 2).c,.slice (Y i 3).a (Y i 3).n (Y i 3).c,.slice (Y i 4).a (Y i 4).n (Y i 4).c,.slice (Y i 5).a (Y i 5).n (Y i 5).c,.slice (Y i 6).a (Y i 6).n (Y i 6).c,.slice (Y i 7).a (Y i 7).n (Y i 7).c,.slice (Y i 8).a (Y i 8).n (Y i 8).c]
 | 7=>∃ b,q=.pointer (some ⟨b,0,none⟩)∧g≤b∧Blk 23 w b (cond (k 9) #[.int .i64 M.d,.int .i64 M.h,.int .i64 M.l,.int .i64 M.v,.int .i64 M.u,.int .i64 M.x,.int .i64 M.t,.int .i64 M.n] #[.int .i64 0,.int .i64 0,.int .i64 0,.int .i64 0,.int .i64 0,.int .i64 0,.int .i64 0,.int .i64 0])
 | 8=>∃ b,q=.pointer (some ⟨b,0,none⟩)∧g≤b∧Blk 65 w b (cond (k 10) #[.slice (Y i 0).a (Y i 0).n (Y i 0).c,.slice (Y i 1).a (Y i 1).n (Y i 1).c,.slice (Y i 2).a (Y i 2).n (Y i 2).c,.slice (Y i 3).a (Y i 3).n (Y i 3).c,.slice (Y i 4).a (Y i 4).n (Y i 4).c,.slice (Y i 5).a (Y i 5).n (Y i 5).c,.slice (Y i 6).a (Y i 6).n (Y i 6).c,.slice (Y i 7).a (Y i 7).n (Y i 7).c,.slice (Y i 8).a (Y i 8).n (Y i 8).c] #[.slice none 0 0,.slice none 0 0,.slice none 0 0,.slice none 0 0,.slice none 0 0,.slice none 0 0,.slice none 0 0,.slice none 0 0,.slice none 0 0])
 | _=>True
theorem wk_region {id:Nat}{ops:Array Oper}{Q:Exit→Act→World→Prop}{a0:Act}{w0:World}(M:Md)(E L N O:SL)(Y:Nat→Nat→SL)(B i:Nat)(x:Addr)(U D:Nat→Nat→SL)(hM:ModAt w0 E L N O Y U D M.m)(hx:L.a=some x)(hi':i<M.m.ln)(hB:Blk 27 w0 B #[.int .i64 M.d,.int .i64 M.h,.int .i64 M.l,.int .i64 M.v,.int .i64 M.u,.int .i64 M.x,.int .i64 M.t,.int .i64 M.n,.slice E.a E.n E.c,.slice (some x) M.m.ln L.c,.slice N.a N.n N.c,.slice O.a O.n O.c])
  (hlow:lowB ops=true) (hsz:ops.size=11)
  (o0:OpIn ops 0 (some 12) (.fieldAddr 27 (.tmp 4) 0) none []) (o1:OpIn ops 1 (some 13) (.load 23 (.tmp 12)) none [0]) (o2:OpIn ops 2 (some 14) (.fieldAddr 27 (.tmp 4) 2) none []) (o3:OpIn ops 3 (some 15) (.load 25 (.tmp 14)) none [2]) (o4:OpIn ops 4 (some 16) (.move (.tmp 1)) none []) (o5:OpIn ops 5 (some 17) (.indexAddr 25 (.tmp 15) (.tmp 16)) none [3,4]) (o6:OpIn ops 6 (some 18) (.load 65 (.tmp 17)) none [5]) (o7:OpIn ops 7 (some 9) (.alloc 23) none []) (o8:OpIn ops 8 (some 10) (.alloc 65) none []) (o9:OpIn ops 9 none (.store 23 (.tmp 9) (.tmp 13)) none [1,7]) (o10:OpIn ops 10 none (.store 65 (.tmp 10) (.tmp 18)) none [6,8])
  (ub:a0.tmps.getD 4 undef=.pointer (some ⟨B,0,none⟩)) (ui:a0.tmps.getD 1 undef=.int .i64 i)
  (hs:60≤a0.tmps.size)
  (fin:∀ a w cb lb,a.tmps.size=a0.tmps.size→a.defers=a0.defers→(∀ s,(∀ i,i<11→wkD i≠some s)→a.tmps.getD s undef=a0.tmps.getD s undef)→a.tmps.getD 9 undef=.pointer (some ⟨cb,0,none⟩)→a.tmps.getD 10 undef=.pointer (some ⟨lb,0,none⟩)→Below w0.heap.size w0 w→Blk 23 w cb #[.int .i64 M.d,.int .i64 M.h,.int .i64 M.l,.int .i64 M.v,.int .i64 M.u,.int .i64 M.x,.int .i64 M.t,.int .i64 M.n]→Blk 65 w lb #[.slice (Y i 0).a (Y i 0).n (Y i 0).c,.slice (Y i 1).a (Y i 1).n (Y i 1).c,.slice (Y i 2).a (Y i 2).n (Y i 2).c,.slice (Y i 3).a (Y i 3).n (Y i 3).c,.slice (Y i 4).a (Y i 4).n (Y i 4).c,.slice (Y i 5).a (Y i 5).n (Y i 5).c,.slice (Y i 6).a (Y i 6).n (Y i 6).c,.slice (Y i 7).a (Y i 7).n (Y i 7).c,.slice (Y i 8).a (Y i 8).n (Y i 8).c]→Q .normal a w):(Code.region id ops true).wp Tryz.prog Q a0 w0:=by
 refine wp_region_inv2 (by kernel_rfl) hlow (Inv 11 wkD a0 (fun _ _ w=>Below w0.heap.size w0 w) (wkF w0.heap.size M E L N O Y B i x)) (Inv.start (Below.refl _ _).drew) ?_ ?_
 ·intro k i' o a w ho hl hcl hdep hI
  have hi:i'<11:=by rw[←hsz];exact (Array.getElem?_eq_some_iff.1 ho).1
  have ev:∀ (s:Nat),a.eval (.tmp s)=a.tmps.getD s undef:=fun _=>rfl
  have inj:∀ d,wkD i'=some d→∀ j d',j<11→wkD j=some d'→j≠i'→d'≠d:=fun d hd j d' hj hd' hne e=>hne (wkD_inj j hj i' hi (by rw[hd',hd,e]) (by rw[hd'];simp))
  have kp:∀ s,(∀ i,i<11→wkD i≠some s)→a.tmps.getD s undef=a0.tmps.getD s undef:=hI.kept
  have hw:Below w0.heap.size w0 w:=hI.world
  have oth:∀ j,j≠i'→(k j || j==i')=k j:=fun j hj=>by rw[show (j==i')=false by simp[hj],Bool.or_false]
  have sam:(k i' || i'==i')=true:=by simp
  have U1:a.tmps.getD 4 undef=.pointer (some ⟨B,0,none⟩):=(kp 4 (by decide)).trans ub
  have U2:a.tmps.getD 1 undef=.int .i64 i:=(kp 1 (by decide)).trans ui
  have qB:=hB.kept hw
  have hM':=hM.below hw
  have go:∀ {d:Nat}{v:Value}{w':World},wkD i'=some d→i'≠9∧i'≠10→Below w.heap.size w w'→wkF w0.heap.size M E L N O Y B i x (fun j=>k j || j==i') i' v w'→Inv 11 wkD a0 (fun _ _ w=>Below w0.heap.size w0 w) (wkF w0.heap.size M E L N O Y B i x) (fun j=>k j || j==i') (a.put (some d) v) w':=by
   intro d v w' hD hn hb hF
   refine hI.put hi hD (Nat.lt_of_lt_of_le (wkD_lt i' hi d hD) hs) (inj d hD) (bTn hw hb) hF (fun j u hj _ _ hf=>?_)
   unfold wkF at hf ⊢
   dsimp only
   rw[oth 9 (fun e=>hn.1 e.symm),oth 10 (fun e=>hn.2 e.symm)]
   rcases (show j=0∨j=1∨j=2∨j=3∨j=4∨j=5∨j=6∨j=7∨j=8∨j=9∨j=10 by omega) with rfl|rfl|rfl|rfl|rfl|rfl|rfl|rfl|rfl|rfl|rfl<;>first
    | exact hf
    | (obtain⟨b,q1,q0,q2⟩:=hf;exact⟨b,q1,q0,q2.kept hb⟩)
  rcases (show i'=0∨i'=1∨i'=2∨i'=3∨i'=4∨i'=5∨i'=6∨i'=7∨i'=8∨i'=9∨i'=10 by omega) with rfl|rfl|rfl|rfl|rfl|rfl|rfl|rfl|rfl|rfl|rfl
  ·obtain⟨o',e1,e2,e3,e4,e5⟩:=o0
   obtain rfl:=sOp ho e1
   have dp:=dPo e5 hdep
   exact wVa (v:=.pointer (some ⟨B,0,none⟩)) (w':=w) ho e4 (by simp[execOp,e3,ev,U1,run_field27 B 0 0 (by omega)]) (by rw[e2];exact go rfl (by decide) (Below.refl _ _) rfl)
  ·obtain⟨o',e1,e2,e3,e4,e5⟩:=o1
   obtain rfl:=sOp ho e1
   have dp:=dPo e5 hdep
   have V0:a.tmps.getD 12 undef=.pointer (some ⟨B,0,none⟩):=hI.val 0 12 (by decide) rfl (dp 0 (by decide))
   exact wVa (v:=.agg #[.int .i64 M.d,.int .i64 M.h,.int .i64 M.l,.int .i64 M.v,.int .i64 M.u,.int .i64 M.x,.int .i64 M.t,.int .i64 M.n]) (w':=w) ho e4 (by simp[execOp,e3,ev,V0,run_cfg12 qB]) (by rw[e2];exact go rfl (by decide) (Below.refl _ _) rfl)
  ·obtain⟨o',e1,e2,e3,e4,e5⟩:=o2
   obtain rfl:=sOp ho e1
   have dp:=dPo e5 hdep
   exact wVa (v:=.pointer (some ⟨B,9,none⟩)) (w':=w) ho e4 (by simp[execOp,e3,ev,U1,run_field27 B 2 9 (by omega)]) (by rw[e2];exact go rfl (by decide) (Below.refl _ _) rfl)
  ·obtain⟨o',e1,e2,e3,e4,e5⟩:=o3
   obtain rfl:=sOp ho e1
   have dp:=dPo e5 hdep
   have V2:a.tmps.getD 14 undef=.pointer (some ⟨B,9,none⟩):=hI.val 2 14 (by decide) rfl (dp 2 (by decide))
   have c9:w.cell? ⟨B,9,none⟩=some (.slice (some x) M.m.ln L.c):=qB.cell 9 rfl
   exact wVa (v:=.slice (some x) M.m.ln L.c) (w':=w) ho e4 (by simp[execOp,e3,ev,V2,run_load25 c9]) (by rw[e2];exact go rfl (by decide) (Below.refl _ _) rfl)
  ·obtain⟨o',e1,e2,e3,e4,e5⟩:=o4
   obtain rfl:=sOp ho e1
   have dp:=dPo e5 hdep
   exact wVa (v:=.int .i64 i) (w':=w) ho e4 (by simp[execOp,e3,ev,U2]) (by rw[e2];exact go rfl (by decide) (Below.refl _ _) rfl)
  ·obtain⟨o',e1,e2,e3,e4,e5⟩:=o5
   obtain rfl:=sOp ho e1
   have dp:=dPo e5 hdep
   have V3:a.tmps.getD 15 undef=.slice (some x) M.m.ln L.c:=hI.val 3 15 (by decide) rfl (dp 3 (by decide))
   have V4:a.tmps.getD 16 undef=.int .i64 i:=hI.val 4 16 (by decide) rfl (dp 4 (by decide))
   exact wVa (v:=.pointer (some (x.add (i*9)))) (w':=w) ho e4 (by simp[execOp,e3,ev,V3,V4,run_index25 hi' w]) (by rw[e2];exact go rfl (by decide) (Below.refl _ _) rfl)
  ·obtain⟨o',e1,e2,e3,e4,e5⟩:=o6
   obtain rfl:=sOp ho e1
   have dp:=dPo e5 hdep
   have V5:a.tmps.getD 17 undef=.pointer (some (x.add (i*9))):=hI.val 5 17 (by decide) rfl (dp 5 (by decide))
   exact wVa (v:=.agg #[.slice (Y i 0).a (Y i 0).n (Y i 0).c,.slice (Y i 1).a (Y i 1).n (Y i 1).c,.slice (Y i 2).a (Y i 2).n (Y i 2).c,.slice (Y i 3).a (Y i 3).n (Y i 3).c,.slice (Y i 4).a (Y i 4).n (Y i 4).c,.slice (Y i 5).a (Y i 5).n (Y i 5).c,.slice (Y i 6).a (Y i 6).n (Y i 6).c,.slice (Y i 7).a (Y i 7).n (Y i 7).c,.slice (Y i 8).a (Y i 8).n (Y i 8).c]) (w':=w) ho e4 (by simp[execOp,e3,ev,V5,run_load65 (y:=Y i) (fun j hj=>hM'.cell x hx i hi' j hj)]) (by rw[e2];exact go rfl (by decide) (Below.refl _ _) rfl)
  ·obtain⟨o',e1,e2,e3,e4,e5⟩:=o7
   obtain rfl:=sOp ho e1
   have dp:=dPo e5 hdep
   have nd:k 9=false:=by
    cases e:k 9 with
    | false=>rfl
    | true =>
     have y:=hcl.dep' o9 e 7 (by decide)
     rw[hl] at y
     cases y
   refine wVa (v:=.pointer (some ⟨w.heap.size,0,none⟩)) (w':=w.alloc (.cells #[.int .i64 0,.int .i64 0,.int .i64 0,.int .i64 0,.int .i64 0,.int .i64 0,.int .i64 0,.int .i64 0] 23)) ho e4 (by simp[execOp,e3,run_alloc23]) ?_
   rw[e2]
   refine go rfl (by decide) (bNw (Below.refl _ _) _) ⟨w.heap.size,rfl,hw.size,?_⟩
   dsimp only
   rw[oth 9 (by decide),nd]
   exact Blk.new 23 w _
  ·obtain⟨o',e1,e2,e3,e4,e5⟩:=o8
   obtain rfl:=sOp ho e1
   have dp:=dPo e5 hdep
   have nd:k 10=false:=by
    cases e:k 10 with
    | false=>rfl
    | true =>
     have y:=hcl.dep' o10 e 8 (by decide)
     rw[hl] at y
     cases y
   refine wVa (v:=.pointer (some ⟨w.heap.size,0,none⟩)) (w':=w.alloc (.cells #[.slice none 0 0,.slice none 0 0,.slice none 0 0,.slice none 0 0,.slice none 0 0,.slice none 0 0,.slice none 0 0,.slice none 0 0,.slice none 0 0] 65)) ho e4 (by simp[execOp,e3,run_alloc65]) ?_
   rw[e2]
   refine go rfl (by decide) (bNw (Below.refl _ _) _) ⟨w.heap.size,rfl,hw.size,?_⟩
   dsimp only
   rw[oth 10 (by decide),nd]
   exact Blk.new 65 w _
  ·obtain⟨o',e1,e2,e3,e4,e5⟩:=o9
   obtain rfl:=sOp ho e1
   have dp:=dPo e5 hdep
   have V1:a.tmps.getD 13 undef=.agg #[.int .i64 M.d,.int .i64 M.h,.int .i64 M.l,.int .i64 M.v,.int .i64 M.u,.int .i64 M.x,.int .i64 M.t,.int .i64 M.n]:=hI.val 1 13 (by decide) rfl (dp 1 (by decide))
   obtain⟨b,V7,bge,q⟩:∃ b,a.tmps.getD 9 undef=.pointer (some ⟨b,0,none⟩)∧w0.heap.size≤b∧Blk 23 w b (cond (k 9) #[.int .i64 M.d,.int .i64 M.h,.int .i64 M.l,.int .i64 M.v,.int .i64 M.u,.int .i64 M.x,.int .i64 M.t,.int .i64 M.n] #[.int .i64 0,.int .i64 0,.int .i64 0,.int .i64 0,.int .i64 0,.int .i64 0,.int .i64 0,.int .i64 0]):=hI.val 7 9 (by decide) rfl (dp 7 (by decide))
   rw[hl] at q
   obtain⟨w',r',q',on⟩:=run_store23 q M.d M.h M.l M.v M.u M.x M.t M.n
   refine wSk (w':=w') ho e4 (by simp[execOp,e3,ev,V7,V1,r']) ?_
   rw[e2]
   refine Inv.none_' hI rfl (Only.below hw bge hw.size on) (fun j dd hj hD hkj hne hf=>?_)
   rcases (show j=0∨j=1∨j=2∨j=3∨j=4∨j=5∨j=6∨j=7∨j=8∨j=9∨j=10 by omega) with rfl|rfl|rfl|rfl|rfl|rfl|rfl|rfl|rfl|rfl|rfl
   ·exact hf
   ·exact hf
   ·exact hf
   ·exact hf
   ·exact hf
   ·exact hf
   ·exact hf
   ·obtain⟨b2,p1,p0,p2⟩:=hf
    have eb:b2=b:=by
     obtain rfl:=Option.some.inj hD
     have:=V7.symm.trans p1
     simp at this
     exact this.symm
    subst eb
    refine⟨b2,p1,p0,?_⟩
    dsimp only
    rw[sam]
    exact q'
   ·obtain⟨b2,p1,p0,p2⟩:=hf
    refine⟨b2,p1,p0,?_⟩
    dsimp only
    rw[oth 10 (by decide)]
    exact p2.only on (p2.apart q (by decide))
   ·trivial
   ·trivial
  ·obtain⟨o',e1,e2,e3,e4,e5⟩:=o10
   obtain rfl:=sOp ho e1
   have dp:=dPo e5 hdep
   have V6:a.tmps.getD 18 undef=.agg #[.slice (Y i 0).a (Y i 0).n (Y i 0).c,.slice (Y i 1).a (Y i 1).n (Y i 1).c,.slice (Y i 2).a (Y i 2).n (Y i 2).c,.slice (Y i 3).a (Y i 3).n (Y i 3).c,.slice (Y i 4).a (Y i 4).n (Y i 4).c,.slice (Y i 5).a (Y i 5).n (Y i 5).c,.slice (Y i 6).a (Y i 6).n (Y i 6).c,.slice (Y i 7).a (Y i 7).n (Y i 7).c,.slice (Y i 8).a (Y i 8).n (Y i 8).c]:=hI.val 6 18 (by decide) rfl (dp 6 (by decide))
   obtain⟨b,V8,bge,q⟩:∃ b,a.tmps.getD 10 undef=.pointer (some ⟨b,0,none⟩)∧w0.heap.size≤b∧Blk 65 w b (cond (k 10) #[.slice (Y i 0).a (Y i 0).n (Y i 0).c,.slice (Y i 1).a (Y i 1).n (Y i 1).c,.slice (Y i 2).a (Y i 2).n (Y i 2).c,.slice (Y i 3).a (Y i 3).n (Y i 3).c,.slice (Y i 4).a (Y i 4).n (Y i 4).c,.slice (Y i 5).a (Y i 5).n (Y i 5).c,.slice (Y i 6).a (Y i 6).n (Y i 6).c,.slice (Y i 7).a (Y i 7).n (Y i 7).c,.slice (Y i 8).a (Y i 8).n (Y i 8).c] #[.slice none 0 0,.slice none 0 0,.slice none 0 0,.slice none 0 0,.slice none 0 0,.slice none 0 0,.slice none 0 0,.slice none 0 0,.slice none 0 0]):=hI.val 8 10 (by decide) rfl (dp 8 (by decide))
   rw[hl] at q
   obtain⟨w',r',q',on⟩:=run_store65 q (Y i)
   refine wSk (w':=w') ho e4 (by simp[execOp,e3,ev,V8,V6,r']) ?_
   rw[e2]
   refine Inv.none_' hI rfl (Only.below hw bge hw.size on) (fun j dd hj hD hkj hne hf=>?_)
   rcases (show j=0∨j=1∨j=2∨j=3∨j=4∨j=5∨j=6∨j=7∨j=8∨j=9∨j=10 by omega) with rfl|rfl|rfl|rfl|rfl|rfl|rfl|rfl|rfl|rfl|rfl
   ·exact hf
   ·exact hf
   ·exact hf
   ·exact hf
   ·exact hf
   ·exact hf
   ·exact hf
   ·obtain⟨b2,p1,p0,p2⟩:=hf
    refine⟨b2,p1,p0,?_⟩
    dsimp only
    rw[oth 9 (by decide)]
    exact p2.only on (p2.apart q (by decide))
   ·obtain⟨b2,p1,p0,p2⟩:=hf
    have eb:b2=b:=by
     obtain rfl:=Option.some.inj hD
     have:=V8.symm.trans p1
     simp at this
     exact this.symm
    subst eb
    refine⟨b2,p1,p0,?_⟩
    dsimp only
    rw[sam]
    exact q'
   ·trivial
   ·trivial
 ·intro k a w hall hI
  have all:∀ j,j<11→k j=true:=fun j hj=>hall j (by rw[hsz];exact hj)
  obtain⟨cb,v1,-,q1⟩:∃ b,a.tmps.getD 9 undef=.pointer (some ⟨b,0,none⟩)∧w0.heap.size≤b∧Blk 23 w b (cond (k 9) #[.int .i64 M.d,.int .i64 M.h,.int .i64 M.l,.int .i64 M.v,.int .i64 M.u,.int .i64 M.x,.int .i64 M.t,.int .i64 M.n] #[.int .i64 0,.int .i64 0,.int .i64 0,.int .i64 0,.int .i64 0,.int .i64 0,.int .i64 0,.int .i64 0]):=hI.val 7 9 (by decide) rfl (all 7 (by decide))
  obtain⟨lb,v2,-,q2⟩:∃ b,a.tmps.getD 10 undef=.pointer (some ⟨b,0,none⟩)∧w0.heap.size≤b∧Blk 65 w b (cond (k 10) #[.slice (Y i 0).a (Y i 0).n (Y i 0).c,.slice (Y i 1).a (Y i 1).n (Y i 1).c,.slice (Y i 2).a (Y i 2).n (Y i 2).c,.slice (Y i 3).a (Y i 3).n (Y i 3).c,.slice (Y i 4).a (Y i 4).n (Y i 4).c,.slice (Y i 5).a (Y i 5).n (Y i 5).c,.slice (Y i 6).a (Y i 6).n (Y i 6).c,.slice (Y i 7).a (Y i 7).n (Y i 7).c,.slice (Y i 8).a (Y i 8).n (Y i 8).c] #[.slice none 0 0,.slice none 0 0,.slice none 0 0,.slice none 0 0,.slice none 0 0,.slice none 0 0,.slice none 0 0,.slice none 0 0,.slice none 0 0]):=hI.val 8 10 (by decide) rfl (all 8 (by decide))
  rw[all 9 (by decide)] at q1
  rw[all 10 (by decide)] at q2
  exact fin a w cb lb hI.size hI.defers hI.kept v1 v2 hI.world q1 q2
end
section
def Md.bare (M:Md):Md:={ M with r:=0,s:=0,a:=noA }
theorem shiftZ_zero (n:Int):shiftZ 0 n=0:=by
 unfold shiftZ shN
 split
 ·rfl
 ·rw[if_neg (by omega),Int.zero_ediv]
  rfl
theorem prod_nought {ws:List Int}(h:∀ j,ws.getD j 0=0)(xs:List Int)(n:Nat):prodZ ws xs n=0:=by
 induction n with
 | zero=>rfl
 | succ n ih =>
  rw[prodZ,ih,h n,show clampZ 0=0 from rfl,Int.zero_mul]
  rfl
theorem getD_part {ws:List Int}(h:∀ j,ws.getD j 0=0)(a b j:Nat):((ws.drop a).take b).getD j 0=0:=by
 have h':=h (a+j)
 rw[List.getD_eq_getElem?_getD] at h' ⊢
 by_cases hj:j<b
 ·rw[List.getElem?_take_of_lt hj,List.getElem?_drop]
  exact h'
 ·rw[List.getElem?_eq_none (by rw[List.length_take];omega)]
  rfl
theorem row_nought {ws:List Int}(h:∀ j,ws.getD j 0=0)(d:Nat)(xs:List Int)(i:Nat):rowZ ws d xs i=0:=by
 unfold rowZ dotZ
 rw[prod_nought (getD_part h _ _),shiftZ_zero]
 rfl
theorem appl_nought {za zb:List Int}(h:∀ j,zb.getD j 0=0)(r s:Int)(xs:List Int)(j:Nat):(applR za zb r s xs).getD j 0=0:=by
 unfold applR
 split
 ·rw[List.getD_eq_getElem?_getD,List.getElem?_map]
  cases e:(List.range xs.length)[j]? with
  | none=>rfl
  | some k =>
   show applN za zb xs s k=0
   unfold applN
   rw[row_nought h,shiftZ_zero]
 ·rfl
theorem plus_nought {xs ys:List Int}(hx:∀ z∈xs,In32 z)(hy:∀ j,ys.getD j 0=0):plusL xs ys=xs:=by
 refine List.ext_getElem? fun j=>?_
 unfold plusL
 rw[List.getElem?_map]
 by_cases hj:j<xs.length
 ·rw[List.getElem?_range hj]
  have hz:=hx xs[j] (List.getElem_mem hj)
  have e:xs.getD j 0=xs[j]:=by rw[List.getD_eq_getElem?_getD,List.getElem?_eq_getElem hj];rfl
  have c:∀ z,In32 z→clampZ z=z:=fun z hz=>by
   obtain⟨h1,h2⟩:=hz
   unfold clampZ
   rw[if_neg (by omega),if_neg (by omega)]
  rw[List.getElem?_eq_getElem hj]
  show some (plusZ xs ys j)=_
  unfold plusZ
  rw[hy j,e,c _ hz,c 0 (by unfold In32;omega),Int.add_zero,c _ hz]
 ·rw[List.getElem?_eq_none (by simpa using Nat.le_of_not_lt hj),List.getElem?_eq_none (by omega)]
  rfl
def Naught (M:Md):Prop:=∀ i,i<M.m.ln→∀ j,(M.a.f i 1).getD j 0=0∧(M.a.f i 3).getD j 0=0
variable {M:Md}
theorem graft_bare (h:Naught M){i:Nat}(hi:i<M.m.ln){j:Nat}(hj:j=0∨j=2)(y hh:List Int)(hy:∀ z∈y,In32 z):graftL M i j y hh=y:=by
 unfold graftL
 split
 ·rfl
 ·rcases hj with rfl|rfl
  ·exact plus_nought hy (appl_nought (fun k=>(h i hi k).1) _ _ _)
  ·exact plus_nought hy (appl_nought (fun k=>(h i hi k).2) _ _ _)
theorem q_bare (h:Naught M){i:Nat}(hi:i<M.m.ln)(p:Int)(x:List Int):qL M p i x=qL M.bare p i x:=by
 unfold qL
 rw[graft_bare h hi (.inl rfl) _ _ (in_matL _ _)]
 rfl
theorem v_bare (h:Naught M){i:Nat}(hi:i<M.m.ln)(x:List Int):vL M i x=vL M.bare i x:=by
 unfold vL
 rw[graft_bare h hi (.inr rfl) _ _ (in_matL _ _)]
 rfl
theorem o_bare (h:Naught M){i:Nat}(hi:i<M.m.ln)(p:Int)(P:Nat→List Int)(c:Nat)(x:List Int):oL M p P c i x=oL M.bare p P c i x:=by
 unfold oL valsL
 rw[q_bare h hi,v_bare h hi]
 rfl
theorem stX_bare (h:Naught M)(p:Int)(P:Nat→List Int)(c tok k:Nat)(hk:k≤M.m.ln):stX M p P c tok k=stX M.bare p P c tok k:=by
 induction k with
 | zero=>rfl
 | succ k ih =>
  rw[stX,stX,ih (by omega),o_bare h (by omega)]
  rfl
theorem stR_bare (h:Naught M)(p:Int)(P:Nat→List Int)(c tok k:Nat)(hk:k≤M.m.ln):stR M p P c tok k=stR M.bare p P c tok k:=by
 induction k with
 | zero=>rfl
 | succ k ih =>
  rw[stR,stR,ih (by omega),v_bare h (by omega),stX_bare h p P c tok k (by omega)]
  rfl
theorem row_bare (h:Naught M)(p:Int)(P:Nat→List Int)(c tok:Nat):rowL M p P c tok=rowL M.bare p P c tok:=stR_bare h p P c tok _ (Nat.le_refl _)
theorem out_bare (h:Naught M)(p:Int)(P:Nat→List Int)(c tok:Nat):outL M p P c tok=outL M.bare p P c tok:=by
 unfold outL
 rw[stX_bare h p P c tok _ (Nat.le_refl _)]
 rfl
theorem run_bare (h:Naught M)(T:Nat→Nat)(k:Nat):∀ j,runF M T k j=runF M.bare T k j:=by
 induction k with
 | zero=>intro j;rfl
 | succ k ih =>
  intro j
  rw[runF,runF,ih j,row_bare h,out_bare h]
  simp only[ih]
  rfl
theorem rowF_bare (h:Naught M)(T:Nat→Nat):rowF M T=rowF M.bare T:=by
 funext k
 unfold rowF
 rw[run_bare h T (k+1) k]
theorem outF_bare (h:Naught M)(T:Nat→Nat):outF M T=outF M.bare T:=by
 funext k
 unfold outF
 rw[run_bare h T (k+1) k]
end
section
def xF (M:Md)(T:Nat→Nat)(k i:Nat):List Int:=stX M k (seenF M T k) (k-saw M k) (T k) i
theorem drop_take_left {xs ys:List Int}{a b:Nat}(h:a+b≤xs.length):((xs++ys).drop a).take b=(xs.drop a).take b:=by
 rw[List.drop_append_of_le_length (by omega),List.take_append_of_le_length (by rw[List.length_drop];omega)]
theorem two_step (k D:Nat):2*(k+1)*D=2*k*D+2*D:=by rw[show 2*(k+1)=2*k+2 by omega,Nat.add_mul]
theorem two_le {i k:Nat}(h:i<k)(D:Nat):2*i*D+2*D≤2*k*D:=by
 rw[←two_step]
 exact Nat.mul_le_mul_right _ (by omega)
theorem stR_parts {M:Md}(F:MdFit M)(p:Int)(P:Nat→List Int)(c tok:Nat)(k:Nat)(hk:k≤M.m.ln)(i:Nat)(hi:i<k) :
  ((stR M p P c tok k).drop (2*i*M.D)).take M.D=kL M p i (stX M p P c tok i)∧((stR M p P c tok k).drop (2*i*M.D+M.D)).take M.D=vL M i (stX M p P c tok i):=by
 induction k with
 | zero=>omega
 | succ k ih =>
  have hl:=stR_length F p P c tok k (by omega)
  rw[stR]
  by_cases e:i=k
  ·subst e
   have hk1:=kL_length F p i (stX M p P c tok i)
   have hv1:=vL_length F (i:=i) (by omega) (stX M p P c tok i)
   have d1:(stR M p P c tok i++(kL M p i (stX M p P c tok i)++vL M i (stX M p P c tok i))).drop (2*i*M.D)=kL M p i (stX M p P c tok i)++vL M i (stX M p P c tok i):=by
    rw[←hl,List.drop_left]
   constructor
   ·rw[d1]
    exact (congrArg (fun n=>List.take n (kL M p i (stX M p P c tok i)++vL M i (stX M p P c tok i))) hk1.symm).trans List.take_left
   ·rw[←List.drop_drop,d1]
    have d2:(kL M p i (stX M p P c tok i)++vL M i (stX M p P c tok i)).drop M.D=vL M i (stX M p P c tok i):=(congrArg (fun n=>List.drop n (kL M p i (stX M p P c tok i)++vL M i (stX M p P c tok i))) hk1.symm).trans List.drop_left
    rw[d2]
    exact List.take_of_length_le (by rw[hv1];exact Nat.le_refl _)
  ·have hb:=two_le (show i<k by omega) M.D
   obtain⟨h1,h2⟩:=ih (by omega) (by omega)
   rw[drop_take_left (by omega),drop_take_left (by omega)]
   exact⟨h1,h2⟩
theorem rowF_parts {M:Md}(F:MdFit M)(T:Nat→Nat)(r i:Nat)(hi:i<M.m.ln) :
  ((rowF M T r).drop (2*i*M.D)).take M.D=kL M r i (xF M T r i)∧((rowF M T r).drop (2*i*M.D+M.D)).take M.D=vL M i (xF M T r i):=by
 rw[rowF_eq]
 exact stR_parts F _ _ _ _ _ (Nat.le_refl _) i hi
theorem oL_parts (M:Md)(p:Int){P P':Nat→List Int}{c:Nat}(i:Nat)(x:List Int)(h1:∀ r,r<c→((P r).drop (2*i*M.D)).take M.D=((P' r).drop (2*i*M.D)).take M.D)(h2:∀ r,r<c→((P r).drop (2*i*M.D+M.D)).take M.D=((P' r).drop (2*i*M.D+M.D)).take M.D):oL M p P c i x=oL M p P' c i x:=by
 have e1:keysL M p P c i x=keysL M p P' c i x:=by
  funext r
  unfold keysL partL
  by_cases hr:r<c
  ·rw[if_pos hr,if_pos hr,h1 r hr]
  ·rw[if_neg hr,if_neg hr]
 have e2:valsL M P c i x=valsL M P' c i x:=by
  funext r
  unfold valsL partL
  by_cases hr:r<c
  ·rw[if_pos hr,if_pos hr,h2 r hr]
  ·rw[if_neg hr,if_neg hr]
 unfold oL
 rw[e1,e2]
theorem saw_near {M:Md}(hn:1≤M.n)(k:Nat):k≤saw M k+(M.n.toNat-1):=by
 unfold saw seeZ
 rw[if_neg (by omega)]
 split<;>omega
theorem xF_window {M:Md}(F:MdFit M)(hn:1≤M.n){T T':Nat→Nat}(i:Nat)(hi:i≤M.m.ln):∀ k,(∀ j,j≤k→k≤j+i*(M.n.toNat-1)→T j=T' j)→xF M T k i=xF M T' k i:=by
 induction i with
 | zero =>
  intro k h
  unfold xF stX
  rw[h k (Nat.le_refl _) (by omega)]
 | succ i ih =>
  intro k h
  have hs:(i+1)*(M.n.toNat-1)=i*(M.n.toNat-1)+(M.n.toNat-1):=Nat.succ_mul _ _
  have e0:xF M T k i=xF M T' k i:=ih (by omega) k (fun j h1 h2=>h j h1 (by omega))
  have near:=saw_near hn k
  have le:=saw_le M k
  have back:∀ r,r<k-saw M k→xF M T (saw M k+r) i=xF M T' (saw M k+r) i:=fun r hr=>ih (by omega) (saw M k+r) (fun j h1 h2=>h j (by omega) (by omega))
  show wkL M i (xF M T k i) (oL M k (seenF M T k) (k-saw M k) i (xF M T k i))=wkL M i (xF M T' k i) (oL M k (seenF M T' k) (k-saw M k) i (xF M T' k i))
  rw[e0,oL_parts M k (P:=seenF M T k) (P':=seenF M T' k) i _ (fun r hr=>?_) (fun r hr=>?_)]
  ·unfold seenF
   rw[(rowF_parts F T (saw M k+r) i (by omega)).1,(rowF_parts F T' (saw M k+r) i (by omega)).1,back r hr]
  ·unfold seenF
   rw[(rowF_parts F T (saw M k+r) i (by omega)).2,(rowF_parts F T' (saw M k+r) i (by omega)).2,back r hr]
theorem outF_window {M:Md}(F:MdFit M)(hn:1≤M.n){T T':Nat→Nat}(k:Nat)(h:∀ j,j≤k→k≤j+M.m.ln*(M.n.toNat-1)→T j=T' j):outF M T k=outF M T' k:=by
 have:=xF_window F hn M.m.ln (Nat.le_refl _) k h
 unfold xF at this
 rw[outF_eq,outF_eq]
 unfold outL
 rw[this]
end
section
theorem join_length {oz tz:List Int}{NN on tn:Nat}(ho:oz.length=on)(ht:tz.length=tn)(h1:NN≤on)(h2:NN≤tn):(oz.take NN).length=NN∧(tz.drop NN).length=tn-NN∧(oz.take NN++tz.drop NN).length=tn:=by
 have e1:(oz.take NN).length=NN:=by rw[List.length_take];omega
 have e2:(tz.drop NN).length=tn-NN:=by rw[List.length_drop];omega
 exact⟨e1,e2,by rw[List.length_append];omega⟩
theorem join_end {oz tz:List Int}{NN on:Nat}(ho:oz.length=on)(h1:NN≤on){j:Nat}(hj:NN≤j):tokF tz j=tokF (oz.take NN++tz.drop NN) j:=by
 unfold tokF
 rw[List.getD_eq_getElem?_getD,List.getD_eq_getElem?_getD,List.getElem?_append_right (by rw[List.length_take];omega),List.getElem?_drop,List.length_take,show NN+(j-min NN oz.length)=j by omega]
theorem join_wf {w:World}{a b:Option Addr}{n m NN:Nat}{oz tz:List Int}(ho:Reads .i64 w a n oz)(ht:Reads .i64 w b m tz):∀ z∈(oz.take NN++tz.drop NN),(Lit.int .i64 z).wf=true:=fun z hz=>by
 rcases List.mem_append.1 hz with h|h
 ·exact ho.wf_mem z (List.mem_of_mem_take h)
 ·exact ht.wf_mem z (List.mem_of_mem_drop h)
theorem run_idx31 (x:Addr)(n c k:Nat)(kz:Int)(hk:k<n)(hn:n≤1000)(e:kz=(k:Int))(w:World):(Instr.indexAt 31 (.slice (some x) n c) (.int .i64 kz)).run Tryz.prog w=.ok (.pointer (some (x.add k))) w:=by
 subst e
 have h:(k:Int)<(n:Int):=by omega
 go_simp
end
end Go.Proofs.YthliomlmhfjhnaaGreat
